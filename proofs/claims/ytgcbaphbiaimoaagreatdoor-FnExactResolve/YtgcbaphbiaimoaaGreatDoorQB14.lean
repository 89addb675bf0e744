/- DotSpec, KeepBox, DropDotsSpec, UrlSpec1, ArrEq, HostEq, RuneImpl. -/
import Derived.Test.YtgcbaphbiaimoaaGreatDoorQB13
import Derived.Test.YtgcbaphbiaimoaaGreatDoorQB12
import Derived.ChangeKeysEq
import Derived.Laws.StructEq
set_option maxHeartbeats 4000000
set_option maxRecDepth 100000
namespace Go.Proofs.YtgcbaphbiaimoaaGreatDoor
open Go.Value renaming int->I,string->L,agg->H
open Go.IntKind renaming i64->J
open Go.Ending renaming returned->Y
open _root_.Go.RowKit.Below renaming refl->zo
open _root_.ByteArray renaming empty->zc,size_append->zw,size_extract->zm
open _root_.List renaming append_nil->zh,drop_of_length_le->zn,eq_nil_of_length_eq_zero->zq,filter_cons->z5,findIdx?_cons->z1,getD_eq_getElem?_getD->zk,getElem?_eq_getElem->ze,getElem_mem->z4,head?_eq_getElem?->zt,length_append->zr,length_take->zp,map_eq_cons_iff->zl,mem_cons_of_mem->zz,mem_cons_self->z2,replicate->zi,size_toArray->zs,takeWhile_cons->z0,take_of_length_le->zu
open _root_.Nat renaming le_refl->zf,lt_of_lt_of_le->zg,min_eq_left->zv,zero_le->zj
open _root_.UInt8 renaming toNat_inj->zd
open _root_.Go.World renaming ownsRow_lit->z3
open _root_.Go.Proofs.Tryz
open _root_.Go.Proofs.YtgcbaphbiaimoaaGreatDoor.Tryz
section
open Go.RowKit
def yN(n:Int):Int:=if 1<=n/\n<=2 then n else 0
theorem Db{s:ByteArray}{k n:Nat}(hk:s.size<=k)(he:unL s.data.toList=zi n 46++unL (s.data.toList.drop k)):(isd s.data.toList:Int)=yN (n:Int):=by
 rw[Ip hk he];unfold yN
 by_cases h:1<=n/\n<=2
 .rw[if_pos h,if_pos om]
 rw[if_neg h,if_neg om];rfl
theorem yO{l:List UInt8}(h:isd l=0):(isd l:Int)=yN (-1):=by rw[h];rfl
theorem YJ(s:ByteArray)(w:World)(hs:s.size<=16777216):Calls prog 141 #[L s] w fun e w'=> ∃n:Int,e=Y (I J n)/\ -1<=n/\n<=16777216/\(isd s.data.toList:Int)=yN n/\w=w':=by
 go_enter func141,ntmps141;go_wp2
 go_loop[3,4] (fun n i=> ∃k m:Nat,k<=s.size/\i=I J k/\n=I J m/\m<=k/\unL s.data.toList=zi m 46++unL (s.data.toList.drop k))
  (fun _ i=>s.size-(intOf i).toNat)
 case atStart=>exact ⟨0,0,zj _,rfl,rfl,zf _,rfl⟩
 obtain ⟨k,m,hk,rfl,rfl,hm,he⟩:=hrel;have HE:Hid (unL s.data.toList=zi m 46++unL (s.data.toList.drop k)):=he;clear he
 by_cases hlt:k<s.size
 .by_cases h46:s[k].toNat=46
  .have HN:Hid (unL s.data.toList=zi (m+1) 46++unL (s.data.toList.drop (k+1))):=Io hlt h46 HE.out
   go_wp2;go_round
   case rel=>exact ⟨k+1,m+1,om,gn,gn,om,HN.out⟩
   case measure=>exact j1
  by_cases h2:k+2<s.size
  .obtain ⟨d1,e1⟩: ∃d:Nat,s[k+1].toNat=d:=⟨_,rfl⟩
   obtain ⟨d2,e2⟩: ∃d:Nat,s[k+2].toNat=d:=⟨_,rfl⟩;have i1:=AQ prog 9 underlying9 s ((k:Int)+1) (k+1) d1 om om e1;have i2:=AQ prog 9 underlying9 s ((k:Int)+2) (k+2) d2 om om e2
   by_cases h37:s[k].toNat=37
   .by_cases h50:d1=50
    .by_cases he1:d2=101
     .have HN:Hid (unL s.data.toList=zi (m+1) 46++unL (s.data.toList.drop (k+3))):=G8 h2 h37 om om HE.out
      go_wp2;go_round
      case rel=>exact ⟨k+3,m+1,om,gn,gn,om,HN.out⟩
      case measure=>exact j1
     by_cases he2:d2=69
     .have HN:Hid (unL s.data.toList=zi (m+1) 46++unL (s.data.toList.drop (k+3))):=G8 h2 h37 om om HE.out
      go_wp2;go_round
      case rel=>exact ⟨k+3,m+1,om,gn,gn,om,HN.out⟩
      case measure=>exact j1
     have q1:((d2:Int)==101)=false:=by rw[beq_eq_false_iff_ne];omega
     have q2:((d2:Int)==69)=false:=by rw[beq_eq_false_iff_ne];omega
     have HO:Hid ((isd s.data.toList:Int)=yN (-1)):=yO (EF hlt om (fun _=>by omega) HE.out);go_wp2;go_ret;exact ⟨-1,rfl,om,om,HO.out,rfl⟩
    skip
    have HO:Hid ((isd s.data.toList:Int)=yN (-1)):=yO (EF hlt om (fun _=>by omega) HE.out);go_wp2;go_ret;exact ⟨-1,rfl,om,om,HO.out,rfl⟩
   skip
   have HO:Hid ((isd s.data.toList:Int)=yN (-1)):=yO (EF hlt om (fun _=>by omega) HE.out);go_wp2;go_ret;exact ⟨-1,rfl,om,om,HO.out,rfl⟩
  skip
  have HO:Hid ((isd s.data.toList:Int)=yN (-1)):=yO (EF hlt om (fun _=>by omega) HE.out);go_wp2;go_ret;exact ⟨-1,rfl,om,om,HO.out,rfl⟩
 have HO:Hid ((isd s.data.toList:Int)=yN (m:Int)):=Db om HE.out;go_wp2;go_ret;exact ⟨m,rfl,om,om,HO.out,rfl⟩
theorem YK(s:ByteArray)(w:World)(hs:s.size<=16777216):Calls prog 94 #[L s] w fun e w'=>e=Y (I J (isd s.data.toList:Int))/\w=w':=by
 go_enter func94,ntmps94;go_wp2_with fail;refine (YJ s _ hs).mono ?_;rintro e w' ⟨n,rfl,hn0,hn1,hi,rfl⟩;have HI:Hid ((isd s.data.toList:Int)=yN n):=hi;clear hi
 by_cases h:1<=n/\n<=2
 .have HA:Hid (yN n=n):=by show _=_;unfold yN;rw[if_pos h]
  go_wp2_with fail;refine j5 (aI _ _ _ _ h.1 h.2) ?_;go_wp2;go_ret;exact ⟨aV (by rw[HI.out,HA.out]),rfl⟩
 have HA:Hid (yN n=0):=by show _=_;unfold yN;rw[if_neg h]
 go_wp2_with fail;refine j5 (aP _ _ _ _ om) ?_;go_wp2;go_ret;exact ⟨aV (by rw[HI.out,HA.out]),rfl⟩
theorem I4{p:ByteArray}{k:Nat}(hk:k<p.size)(h:p[k].toNat=47):upN p (k+1)=k+1:=by
 unfold upN;rw[if_pos];rw[jL p k hk];exact zd.1 h
theorem UQ{p:ByteArray}{k:Nat}(hk:k<p.size)(h:p[k].toNat≠47):upN p (k+1)=upN p k:=by
 conv=>lhs;unfold upN
 rw[if_neg];rw[jL p k hk];intro e;exact h (by rw[e];rfl)
theorem I5{p:ByteArray}{k:Nat}(h:upN p p.size=k):p.extract 0 k=upT p:=by unfold upT;rw[h]
theorem Iw{p:ByteArray}(h:upN p p.size=0):(⟨#[]⟩:ByteArray)=upT p:=by
 unfold upT;rw[h];apply bL;show _=(p.extract 0 0).data.toList;rw[bE];rfl
theorem bH{a b:ByteArray}(h:a=b):Ending.returned (L a)=Y (L b):=by rw[h]
theorem S7(p:ByteArray)(w:World)(hs:p.size<=16777216):Calls prog 127 #[L p] w fun e w'=>e=Y (L (upT p))/\w=w':=by
 go_enter func127,ntmps127;go_wp2
 go_loop[3] (fun i=> ∃k:Nat,k<=p.size/\i=I J ((k:Int)-1)/\upN p p.size=upN p k)
  (fun i=>(intOf i+1).toNat)
 case atStart=>exact ⟨p.size,zf _,gn,rfl⟩
 obtain ⟨k,hk,rfl,he⟩:=hrel;have HE:Hid (upN p p.size=upN p k):=he;clear he;obtain ⟨z,hz⟩: ∃z:Int,(k:Int)-1=z:=⟨_,rfl⟩;rw[hz]
 by_cases h0:k=0
 .have hz':z= -1:=om
  subst hz';have HN:Hid ((⟨#[]⟩:ByteArray)=upT p):=Iw (by rw[HE.out,h0];rfl);clear hz h0;go_wp2;go_ret;exact ⟨bH HN.out,rfl⟩
 obtain ⟨j,hj⟩: ∃j:Nat,k=j+1:=⟨k-1,om⟩;have hz':z=(j:Int):=om;subst hz';have hlt:j<p.size:=om;rw[hj]at HE;clear hz h0 hj hk
 by_cases h47:p[j].toNat=47
 .have HN:Hid (p.extract 0 (j+1)=upT p):=I5 (HE.out.trans (I4 hlt h47))
  go_wp2;go_ret;exact ⟨bH HN.out,rfl⟩
 have HN:Hid (upN p p.size=upN p j):=HE.out.trans (UQ hlt h47);go_wp2;go_round
 case rel=>exact ⟨j,om,gn,HN.out⟩
 case measure=>simp[intOf]
theorem Dc(p:ByteArray)(w:World)(hs:p.size<=1048576):Calls prog 127 #[L p] w fun e w'=>e=Y (L (upT p))/\w=w':=
 S7 p w om
def kX(tb te:TypeId)(n0 B g:Nat)(out:List ByteArray)(W:World):Prop:=
 ∃v,Boxed W B tb v/\W.ownsRow n0 te 1 v out.length (aZ out)/\some g≠v.ownBlock/\g<W.heap.size
theorem GU{w w':World}(hb:Below w.heap.size w w'):w.grownBy w' none:=⟨hb.os,hb.tape,hb.output,hb.size,fun k hk _=>hb.block k hk⟩
theorem MG{W W':World}{B:Nat}{t:TypeId}{v:Value}(h:Boxed W B t v)(hb:Below W.heap.size W W'):Boxed W' B t v:=h.kept (GU hb) j2
theorem tB{tb te:TypeId}{n0 B g:Nat}{out:List ByteArray}{W W':World}(h:kX tb te n0 B g out W)(hb:Below W.heap.size W W'):kX tb te n0 B g out W':=by
 obtain ⟨v,h1,h2,h3,h4⟩:=h;refine ⟨v,MG h1 hb,h2.kept (GU hb) (by cases hv:v.ownBlock<;>simp),h3,zg h4 hb.size⟩
theorem S8{tb te:TypeId}(hte:tb≠te){n0 B g:Nat}{out:List ByteArray}{x:ByteArray}{W w1:World}{v v':Value}(hgB:g≠B)(hB:n0<=B)(hn:n0<=W.heap.size)
  (h1:Boxed W B tb v) (h2:W.ownsRow n0 te 1 v out.length (aZ out)) (h3:some g≠v.ownBlock) (h4:g<W.heap.size)
  (o:w1.ownsRow n0 te 1 v' (out.length+1) (aZ out++[L x])) (hgr:W.grownBy w1 v.ownBlock) (hat:v'.ownBlock=v.ownBlock∨v'.ownBlock=some (W.heap.size+1)):
  Boxed w1 B tb v/\kX tb te n0 B g (out++[x]) (w1.setCell ⟨B,0,none⟩ v')/\(w1.setCell ⟨B,0,none⟩ v').heap[g]? =W.heap[g]? /\Below n0 W (w1.setCell ⟨B,0,none⟩ v'):=by
 have hb1:Boxed w1 B tb v:=h1.kept hgr (h1.not_row hte h2);have hgs:=grownBy_setCell' w1 B v';refine ⟨hb1,⟨v',hb1.set v',?_,?_,?_⟩,?_,?_⟩
 .rw[lS,zr]
  exact o.kept hgs (.inr (hb1.not_row hte o).symm)
 .rcases hat with h|h
  .rw[h];exact h3
  rw[h];intro e;cases e;omega
 .exact zg (zg h4 hgr.size) hgs.size
 .rw[hgs.block g (zg h4 hgr.size) (fun e=>hgB (by cases e;rfl)),hgr.block g h4 h3]
 refine ((zo n0 W).grown hgr hn fun j ej=> ?_).setCell (p:=⟨B,0,none⟩) hB v';exact (h2.lt j ej).1
theorem S9{tb te:TypeId}(hte:tb≠te){n0 B g b cap:Nat}{out:List ByteArray}{W:World}(m:Nat)(hm:m<=out.length)(hgB:g≠B)(hB:n0<=B)
  (h1:Boxed W B tb (.slice (some ⟨b,0,none⟩) out.length cap)) (h2:W.ownsRow n0 te 1 (.slice (some ⟨b,0,none⟩) out.length cap) out.length (aZ out)) (h3:some g≠(Value.slice (some ⟨b,0,none⟩) out.length cap).ownBlock) (h4:g<W.heap.size):
  kX tb te n0 B g (out.take m) (W.setCell ⟨B,0,none⟩ (.slice (some ⟨b,0,none⟩) m cap))/\(W.setCell ⟨B,0,none⟩ (.slice (some ⟨b,0,none⟩) m cap)).heap[g]? =W.heap[g]? /\Below n0 W (W.setCell ⟨B,0,none⟩ (.slice (some ⟨b,0,none⟩) m cap)):=by
 have hgs:=grownBy_setCell' W B (.slice (some ⟨b,0,none⟩) m cap);have o:=sK h2 m hm;rw[lW]at o;refine ⟨⟨_,h1.set _,?_,h3,zg h4 hgs.size⟩,hgs.block g h4 (fun e=>hgB (by cases e;rfl)),(zo n0 W).setCell (p:=⟨B,0,none⟩) hB _⟩;rw[zp,zv hm];exact o.kept hgs (.inr (h1.not_row hte o).symm)
theorem AS{W W':World}{g:Nat}(h:W'.heap[g]? =W.heap[g]?)(j:Nat):W'.cell? ⟨g,j,none⟩=W.cell? ⟨g,j,none⟩:=by
 simp only[World.cell?,h]
theorem GV{p:ByteArray}(h0:0<p.size)(h:p[0].toNat=47):bZ p=true:=by
 unfold bZ;have e:p.data.toList.head? =some p[0]:=by
  rw[zt,ze (by simpa using h0)];rfl
 rw[e,zd.1 (show p[0].toNat=(47:UInt8).toNat from h)];rfl
theorem MH{p:ByteArray}(h0:0<p.size)(h:p[0].toNat≠47):bZ p=false:=by
 unfold bZ;have e:p.data.toList.head? =some p[0]:=by
  rw[zt,ze (by simpa using h0)];rfl
 rw[e,beq_eq_false_iff_ne];intro e2;exact h (by rw[Option.some.inj e2];rfl)
theorem yP{p:ByteArray}(h0:p.size=0):bZ p=false:=by
 unfold bZ;rw[zq (show p.data.toList.length=0 by simpa using h0)];rfl
theorem GW{p:ByteArray}(h:bZ p=false):cD p=p:=by unfold cD;rw[h];rfl
theorem MI{p:ByteArray}(h:bZ p=true):(⟨(slL (dN (bN p))).toArray⟩:ByteArray)=cD p:=by unfold cD;rw[h];rfl
def kL(l:List ByteArray)(k:Nat):List ByteArray:=if k=l.length then dN l else eV (l.take k)
theorem PX{l:List ByteArray}{k:Nat}(h:k<l.length):kL l k=eV (l.take k):=by unfold kL;rw[if_neg om]
theorem I6(l:List ByteArray):kL l l.length=dN l:=by unfold kL;rw[if_pos rfl]
theorem Dd{l:List ByteArray}{k:Nat}(h:k+1=l.length):sE l=l.getD k zc:=by unfold sE;rw[<-h];rfl
theorem De{l:List ByteArray}{k:Nat}(h:k+1=l.length):eV l=fM (eV (l.take k)) (l.getD k zc):=by
 rw[<-AM l k om,h,List.take_length]
theorem UR{l:List ByteArray}{k:Nat}(h:k+1<l.length):kL l (k+1)=fM (kL l k) (l.getD k zc):=by
 rw[PX h,AM l k om,PX om]
theorem US{l:List ByteArray}{k:Nat}(h:k+1=l.length):kL l (k+1)=if isd (toL (l.getD k zc))=0 then fM (kL l k) (l.getD k zc)else fM (kL l k) (l.getD k zc)++[zc]:=by
 rw[h,I6];unfold dN;rw[Dd h,De h,PX (show k<l.length by omega)]
theorem YL(l:List ByteArray)(k:Nat):(kL l k).length<=l.length:=by
 unfold kL;split
 .exact sZ l
 exact Nat.le_trans (BR _) (by rw[zp];omega)
theorem Df{l:List ByteArray}{k:Nat}{x:ByteArray}(hk:k<l.length)(hx:l.getD k zc=x)(h:isd x.data.toList=0):kL l (k+1)=kL l k++[x]:=by
 by_cases hl:k+1=l.length
 .rw[US hl,hx,if_pos (show isd (toL x)=0 from h),uD h]
 rw[UR om,hx,uD h]
theorem Iy{l:List ByteArray}{k:Nat}{x:ByteArray}(hk:k<l.length)(hx:l.getD k zc=x)(h:isd x.data.toList≠0):kL l (k+1)=fM (kL l k) x++(if k+1=l.length then [zc]else []):=by
 by_cases hl:k+1=l.length
 .rw[if_pos hl,US hl,hx,if_neg (show ¬isd (toL x)=0 from h)]
 rw[if_neg hl,UR om,hx,zh]
theorem yQ{w1:World}{B:Nat}{v:Value}{e:TypeId}{o:List ByteArray}{x:ByteArray}{m:Nat}(hm:m=o.length)(h:w1.ownsRow B e 1 v (m+1) (aZ o++ #[Value.string x].toList)):w1.ownsRow B e 1 v (o++[x]).length (aZ (o++[x])):=by
 subst hm;rw[lS,zr];exact h
theorem Dg{l:List ByteArray}{k:Nat}(hk:k<l.length){z y:ByteArray}(hz:z.data.toList=slL (l.take k))(hy:l.getD k zc=y):((z++(⟨#[47]⟩:ByteArray))++y).data.toList=slL (l.take (k+1)):=by
 rw[vS l k hk,hy,Iq,<-hz];simp[toL]
theorem I7{l:List ByteArray}{k n:Nat}{z:ByteArray}(h:z.data.toList=slL (l.take k))(hl:(slL l).length<=n):z.size<=n:=by
 have h1:=Ir l k;rw[<-h]at h1;have h2:z.data.toList.length=z.size:=by simp
 omega
theorem vC(p:ByteArray)(w:World)(hs:p.size<=16777216):Calls prog 42 #[L p] w fun e w'=>e=Y (L (cD p))/\Below w.heap.size w w':=by
 by_cases h0:p.size=0
 .have HD:Hid (p=cD p):=(GW (yP h0)).symm
  have he:=aS h0;go_enter func42,ntmps42;go_wp2;go_ret;exact ⟨bH HD.out,zo _ _⟩
 have he:=aW (show 0<p.size by omega)
 by_cases h47:p[0].toNat=47
 .have hr:=GV om h47
  have HD:Hid ((⟨(slL (dN (bN p))).toArray⟩:ByteArray)=cD p):=MI hr;have hpl:=rU hr;have hlp:=AK hr;have hll:(bN p).length<=16777217:=by
   rw[hpl];have h1:=(eF (p.extract 1 p.size) 47 (p.extract 1 p.size).size).2;have h2:(p.extract 1 p.size).size<=p.size:=by rw[zm];omega
   unfold aB;rw[zr,List.length_singleton];omega
  have hxs: ∀j,((bN p).getD j zc).size<=16777216:=fun j=>by
   by_cases hj:j<(bN p).length
   .have hm:(bN p).getD j zc∈bN p:=by
     rw[zk,ze hj];exact z4 hj
    generalize (bN p).getD j zc=y at hm;rw[hpl]at hm;have h1:=lK _ _ _ hm;rw[zm]at h1;omega
   rw[zk,List.getElem?_eq_none om]
   decide
  have hkz:(slL (dN (bN p))).length<=16777216:=by
   have h1:=AL (bN p);rw[yF hr]at h1;have h2:p.data.toList.length=p.size:=by simp
   omega
  have CF:Hid (∀W,Calls prog 93 #[L (p.extract 1 p.size),.int .u8 47] W fun e w'=> ∃v,e=Y v/\w'.ownsRow W.heap.size 9 1 v (bN p).length (aZ (bN p))/\Below W.heap.size W w'):=fun W=>by
   have h1:=BI (p.extract 1 p.size) 47 W (by rw[zm];omega);rw[<-hpl]at h1;exact h1
  clear hpl;generalize bN p=l at HD hlp hll hxs hkz CF;have HX:Hid (∀j,(l.getD j zc).size<=16777216):=hxs;clear hxs hr;go_enter func42,ntmps42;go_wp2_with fail;refine (CF.out _).mono ?_;rintro e wa ⟨va,rfl,oa,ba⟩;have za:=ba.size
  rcases aY oa with ⟨h,_⟩|⟨_,g,cp,rfl⟩
  .omega
  have hglt:=(oa.lt g rfl).2;have HC:Hid (∀j,j<l.length->wa.cell? ⟨g,j,none⟩=some (L (l.getD j zc))):=fun j hj=>cO oa j hj
  clear oa;go_wp2_with fail
  go_loopw[4,5] (fun o i wr=> ∃k:Nat,k<=l.length/\i=I J k/\wr.ownsRow wa.heap.size 9 1 o (kL l k).length (aZ (kL l k))/\Below wa.heap.size wa wr)
   (fun _ i _=>l.length-(intOf i).toNat)
  case atStart=>exact ⟨0,zj _,rfl,by rw[PX hlp];exact z3 wa #[] 0 (zf _) de rfl,(zo _ _).alloc (zf _) _⟩
  obtain ⟨k,hk,rfl,hown,hbel⟩:=hrel;have hsz:=hbel.size;have hcl:=YL l k
  by_cases hlt:k<l.length
  .have hcell:wr.cell? ⟨g,k,none⟩=some (L (l.getD k zc)):=by
    rw[AS (hbel.block g hglt) k];exact HC.out k hlt
   have hx1:=HX.out k;obtain ⟨x,hx⟩: ∃x,l.getD k zc=x:=⟨_,rfl⟩;rw[hx]at hcell hx1;have hxi:(x.size:Int)<=16777216:=om;have HXE:Hid (l.getD k zc=x):=hx;have hd:=YG x.data.toList;have CI:Hid (∀W,CS 94 #[L x] W (I J (isd x.data.toList:Int))):=fun W=>YK x W hx1
   clear hx
   by_cases d0:isd x.data.toList=0
   .have HN:Hid (kL l (k+1)=kL l k++[x]):=Df hlt HXE.out d0
    rw[d0]at CI;clear d0 hd;obtain ⟨O,hO⟩: ∃O,kL l k=O:=⟨_,rfl⟩;rw[hO]at hown hcl HN;clear hO;go_wp2_with fail;refine (CI.out _).mono ?_;rintro e w' ⟨rfl,rfl⟩;go_wp2_with (at_builtin;refine aC _ rfl _ _ 86 rfl wa.heap.size 9 (L ⟨#[]⟩) 16 underlying86 infoStr rfl _ _ _ rfl hown #[L x] 1 rfl rfl (lJ _) om (by unfold maxLen;omega) om ?_);intro v' w1 hown' hb1;have B1:Below wa.heap.size wa w1:=hbel.trans hb1;clear hb1 hbel;go_wp2;go_roundw
    case rel=>exact ⟨k+1,om,gn,by rw[HN.out];exact yQ rfl hown',B1⟩
    case measure=>exact j1
   have HD2:Hid (kL l (k+1)=fM (kL l k) x++(if k+1=l.length then [zc]else [])):=Iy hlt HXE.out d0;obtain ⟨O,hO⟩: ∃O,kL l k=O:=⟨_,rfl⟩;rw[hO]at hown hcl HD2;clear hO
   by_cases d2:isd x.data.toList=2
   .rw[UH d2]at HD2
    rw[d2]at CI;clear d0 d2 hd
    rcases aY hown with ⟨hl,hnil,ao,cap,rfl⟩|⟨hl,b,cap,rfl⟩
    .have hO:O.take (O.length-1)=O:=zu om
     rw[hO]at HD2;clear hO;have HO0:Hid (O.length=0):=hl;have hown2:wr.ownsRow wa.heap.size 9 1 (.slice ao 0 cap) 0 (aZ O):=by have h5:=hown;rw[hl]at h5;exact h5
     clear hnil
     by_cases hla:k+1=l.length
     .rw[if_pos hla]at HD2
      have HN:Hid (kL l (k+1)=O++[zc]):=HD2.out;have hki:(((k:Int):Int)==(l.length:Int)-1)=true:=by rw[beq_iff_eq];omega
      clear hla HD2 hown hl;go_wp2_with fail;refine (CI.out _).mono ?_;rintro e w' ⟨rfl,rfl⟩;go_wp2_with (at_builtin;refine aC _ rfl _ _ 86 rfl wa.heap.size 9 (L ⟨#[]⟩) 16 underlying86 infoStr rfl _ _ _ rfl hown2 #[L ⟨#[]⟩] 1 rfl rfl (lJ _) om (by unfold maxLen;omega) om ?_);intro v' w1 hown' hb1;have B1:Below wa.heap.size wa w1:=hbel.trans hb1;clear hb1 hbel;go_wp2;go_roundw
      case rel=>exact ⟨k+1,om,gn,by rw[HN.out];exact yQ HO0.out.symm hown',B1⟩
      case measure=>exact j1
     rw[if_neg hla,zh]at HD2;have HN:Hid (kL l (k+1)=O):=HD2.out;have hki:(((k:Int):Int)==(l.length:Int)-1)=false:=by rw[beq_eq_false_iff_ne];omega
     clear hla HD2 hl;go_wp2_with fail;refine (CI.out _).mono ?_;rintro e w' ⟨rfl,rfl⟩;go_wp2;go_roundw
     case rel=>exact ⟨k+1,om,gn,by rw[HN.out];exact hown,hbel⟩
     case measure=>exact j1
    have hcap:=mY hown;have hown2:=sK hown (O.length-1) om;rw[lW]at hown2;have HL:Hid (O.length-1=(O.take (O.length-1)).length):=by show _=_;rw[zp];omega
    by_cases hla:k+1=l.length
    .rw[if_pos hla]at HD2
     have HN:Hid (kL l (k+1)=O.take (O.length-1)++[zc]):=HD2.out;have hki:(((k:Int):Int)==(l.length:Int)-1)=true:=by rw[beq_iff_eq];omega
     clear hla HD2 hown;go_wp2_with fail;refine (CI.out _).mono ?_;rintro e w' ⟨rfl,rfl⟩;go_wp2_with (at_builtin;refine aC _ rfl _ _ 86 rfl wa.heap.size 9 (L ⟨#[]⟩) 16 underlying86 infoStr rfl _ _ _ rfl hown2 #[L ⟨#[]⟩] 1 rfl rfl (lJ _) om (by unfold maxLen;omega) om ?_);intro v' w1 hown' hb1;have B1:Below wa.heap.size wa w1:=hbel.trans hb1;clear hb1 hbel;go_wp2;go_roundw
     case rel=>exact ⟨k+1,om,gn,by rw[HN.out];exact yQ HL.out hown',B1⟩
     case measure=>exact j1
    rw[if_neg hla,zh]at HD2;have HN:Hid (kL l (k+1)=O.take (O.length-1)):=HD2.out;have hki:(((k:Int):Int)==(l.length:Int)-1)=false:=by rw[beq_eq_false_iff_ne];omega
    have hown3:wr.ownsRow wa.heap.size 9 1 (.slice (some ⟨b,0,none⟩) (O.length-1) cap) (O.take (O.length-1)).length (aZ (O.take (O.length-1))):=by rw[<-HL.out];exact hown2
    clear hla HD2 hown hown2;go_wp2_with fail;refine (CI.out _).mono ?_;rintro e w' ⟨rfl,rfl⟩;go_wp2;go_roundw
    case rel=>exact ⟨k+1,om,gn,by rw[HN.out];exact hown3,hbel⟩
    case measure=>exact j1
   have d1:isd x.data.toList=1:=om;rw[UG d1]at HD2;rw[d1]at CI;clear d0 d2 d1 hd
   by_cases hla:k+1=l.length
   .rw[if_pos hla]at HD2
    have HN:Hid (kL l (k+1)=O++[zc]):=HD2.out;have hki:(((k:Int):Int)==(l.length:Int)-1)=true:=by rw[beq_iff_eq];omega
    clear hla HD2;go_wp2_with fail;refine (CI.out _).mono ?_;rintro e w' ⟨rfl,rfl⟩;go_wp2_with (at_builtin;refine aC _ rfl _ _ 86 rfl wa.heap.size 9 (L ⟨#[]⟩) 16 underlying86 infoStr rfl _ _ _ rfl hown #[L ⟨#[]⟩] 1 rfl rfl (lJ _) om (by unfold maxLen;omega) om ?_);intro v' w1 hown' hb1;have B1:Below wa.heap.size wa w1:=hbel.trans hb1;clear hb1 hbel;go_wp2;go_roundw
    case rel=>exact ⟨k+1,om,gn,by rw[HN.out];exact yQ rfl hown',B1⟩
    case measure=>exact j1
   rw[if_neg hla,zh]at HD2;have HN:Hid (kL l (k+1)=O):=HD2.out;have hki:(((k:Int):Int)==(l.length:Int)-1)=false:=by rw[beq_eq_false_iff_ne];omega
   clear hla HD2;go_wp2_with fail;refine (CI.out _).mono ?_;rintro e w' ⟨rfl,rfl⟩;go_wp2;go_roundw
   case rel=>exact ⟨k+1,om,gn,by rw[HN.out];exact hown,hbel⟩
   case measure=>exact j1
  have hke:k=l.length:=om;rw[hke,I6]at hown;clear hcl;have hKn:=PK hlp;have hKl:=sZ l;generalize dN l=K at hown hKn hKl HD hkz;have HK:Hid (K≠[]):=hKn;clear hKn
  rcases aY hown with ⟨h,_⟩|⟨hK0,b,cap,rfl⟩
  .exact absurd (zq h) HK.out
  have HCK:Hid (∀j,j<K.length->wr.cell? ⟨b,j,none⟩=some (L (K.getD j zc))):=fun j hj=>cO hown j hj
  have hcap:=mY hown;have BW:Below w.heap.size w wr:=ba.trans (hbel.mono za);clear hown hbel hke;go_wp2_with fail
  go_loop[7,8] (fun t i=> ∃(k:Nat) (z:ByteArray),k<=K.length/\i=I J k/\t=L z/\z.data.toList=slL (K.take k)) (fun _ i=>K.length-(intOf i).toNat)
  case atStart=>exact ⟨0,⟨#[]⟩,zj _,rfl,rfl,rfl⟩
  obtain ⟨j,z,hj,rfl,rfl,hz⟩:=hrel;have HZ:Hid (z.data.toList=slL (K.take j)):=hz;have hzs:=I7 hz hkz;clear hz
  by_cases hjl:j<K.length
  .have hc:=HCK.out j hjl
   obtain ⟨y,hy⟩: ∃y,K.getD j zc=y:=⟨_,rfl⟩;rw[hy]at hc;have HN:Hid (((z++(⟨#[47]⟩:ByteArray))++y).data.toList=slL (K.take (j+1))):=Dg hjl HZ.out hy;have hns:=I7 HN.out hkz;have hd1:(⟨#[47]⟩:ByteArray).size=1:=rfl;have hys:y.size<=16777216:=by rw[zw,zw,hd1]at hns;omega
   clear hy hns;go_wp2_with fail;go_round
   case rel=>exact ⟨j+1,_,om,gn,rfl,HN.out⟩
   case measure=>exact j1
  have HE:Hid (z=cD p):=by
   show _=_;rw[<-HD.out];apply bL;show z.data.toList=_;rw[HZ.out,zu om];rfl
  go_wp2;go_ret;exact ⟨bH HE.out,BW⟩
 have HD:Hid (p=cD p):=(GW (MH om h47)).symm;go_enter func42,ntmps42;go_wp2;go_ret;exact ⟨bH HD.out,zo _ _⟩
theorem I8{c:UInt8}(h:c.toNat=47∨c.toNat=92):slB c=true:=by
 unfold slB
 rcases h with h|h
 .rw[zd.1 (show c.toNat=(47:UInt8).toNat from h)];rfl
 rw[zd.1 (show c.toNat=(92:UInt8).toNat from h)];rfl
theorem Mj{c:UInt8}(h1:c.toNat≠47)(h2:c.toNat≠92):slB c=false:=by
 unfold slB;rw[Bool.or_eq_false_iff,beq_eq_false_iff_ne,beq_eq_false_iff_ne];exact ⟨fun e=>h1 (by rw[e];rfl),fun e=>h2 (by rw[e];rfl)⟩
theorem kA(c:UInt8)(d:Nat)(hd:c.toNat=d)(w:World):Calls prog 53 #[.int .u8 (d:Int)] w fun e w'=>e=Y (.bool (slB c))/\w=w':=by
 by_cases h1:d=47
 .have HS:Hid (slB c=true):=I8 om
  subst h1;clear hd;go_enter func53,ntmps53;go_wp2;go_ret;exact ⟨aF HS.out.symm,rfl⟩
 have q1:((d:Int)==47)=false:=beq_eq_false_iff_ne.2 om
 by_cases h2:d=92
 .have HS:Hid (slB c=true):=I8 om
  subst h2;clear hd;go_enter func53,ntmps53;go_wp2;go_ret;exact ⟨aF HS.out.symm,rfl⟩
 have q2:((d:Int)==92)=false:=beq_eq_false_iff_ne.2 om;have HS:Hid (slB c=false):=Mj om om;clear hd h1 h2;go_enter func53,ntmps53;go_wp2;go_ret;exact ⟨aF HS.out.symm,rfl⟩
def clL(l:List UInt8):List UInt8:=(l.takeWhile fun c=>c !=35).filter fun c=>c !=9&&c !=10&&c !=13
theorem Iz{c:UInt8}(h:c.toNat=35)(r:List UInt8):clL (c::r)=[]:=by
 rw[zd.1 (show c.toNat=(35:UInt8).toNat from h)];rfl
theorem UT{c:UInt8}{n:UInt8}(h:c.toNat≠n.toNat):(c !=n)=true:=by
 rw[bne_iff_ne];intro e;exact h (by rw[e])
theorem Ja{c:UInt8}(h:c.toNat=9∨c.toNat=10∨c.toNat=13)(r:List UInt8):clL (c::r)=clL r:=by
 unfold clL;rw[z0,if_pos (UT (n:=35) (by show c.toNat≠35;omega)),z5,if_neg]
 rcases h with h|h|h
 .rw[zd.1 (show c.toNat=(9:UInt8).toNat from h)];decide
 .rw[zd.1 (show c.toNat=(10:UInt8).toNat from h)];decide
 rw[zd.1 (show c.toNat=(13:UInt8).toNat from h)];decide
theorem Jb{c:UInt8}(h0:c.toNat≠35)(h1:c.toNat≠9)(h2:c.toNat≠10)(h3:c.toNat≠13)(r:List UInt8):clL (c::r)=c::clL r:=by
 unfold clL;rw[z0,if_pos (UT (n:=35) h0),z5,if_pos];rw[UT (n:=9) h1,UT (n:=10) h2,UT (n:=13) h3];rfl
theorem MJ(s:ByteArray)(w:World)(hs:s.size<=1048576):Calls prog 51 #[L s] w fun e w'=>e=Y (L ⟨(cK s.data.toList).toArray⟩)/\Below w.heap.size w w':=by
 have hts:(⟨(Lib.trimS s.data.toList cQ).toArray⟩:ByteArray).size<=1048576:=by
  have h1:=yM s.data.toList cQ;have h2:(⟨(Lib.trimS s.data.toList cQ).toArray⟩:ByteArray).size=(Lib.trimS s.data.toList cQ).length:=zs;have h3:s.data.toList.length=s.size:=by simp
  omega
 have HF:Hid (cK s.data.toList=clL (⟨(Lib.trimS s.data.toList cQ).toArray⟩:ByteArray).data.toList):=rfl;have CT:Hid (∀W,CS 112 #[L s] W (L ⟨(Lib.trimS s.data.toList cQ).toArray⟩)):=fun W=>Cs s W om
 generalize (⟨(Lib.trimS s.data.toList cQ).toArray⟩:ByteArray)=t at hts HF CT;go_enter func51,ntmps51;go_wp2_with fail;refine (CT.out _).mono ?_;rintro e w' ⟨rfl,rfl⟩;go_wp2_with fail
 go_loopw[3,5] (fun b i wr=> ∃(k:Nat) (o:List UInt8),k<=t.size/\i=I J k/\o.length<=k/\wr.ownsRow w.heap.size 5 1 b o.length (aD o)/\o++clL (t.data.toList.drop k)=clL t.data.toList/\Below w.heap.size w wr)
  (fun _ i _=>t.size-(intOf i).toNat)
 case atStart=>exact ⟨0,[],zj _,rfl,zj _,z3 w #[] 0 (zf _) de rfl,rfl,(zo _ _).alloc (zf _) _⟩
 obtain ⟨k,o,hk,rfl,hol,hown,he,hbel⟩:=hrel;have HE:Hid (o++clL (t.data.toList.drop k)=clL t.data.toList):=he;clear he;have hsz:=hbel.size
 by_cases hlt:k<t.size
 .have hdr:=fO t k hlt
  rw[hdr]at HE;clear hdr;obtain ⟨d,hd⟩: ∃d:Nat,t[k].toNat=d:=⟨_,rfl⟩;have hd2:d<256:=by rw[<-hd];exact t[k].toNat_lt
  by_cases h35:d=35
  .have HN:Hid (o=clL t.data.toList):=by show _=_;rw[<-HE.out,Iz om,zh]
   have HO:=bG (P:=prog) wr 22 9 5 underlying22 underlying5 underlying9 hown;subst h35;go_wp2;go_ret;exact ⟨oT (HN.out.trans HF.out.symm),hbel⟩
  have q35:((d:Int) !=35)=true:=bne_iff_ne.2 om
  by_cases hw:d=9∨d=10∨d=13
  .have HN:Hid (o++clL (t.data.toList.drop (k+1))=clL t.data.toList):=by show _=_;rw[<-HE.out,Ja om]
   rcases hw with h|h|h
   all_goals
    subst h;go_wp2;go_roundw
    case rel=>exact ⟨k+1,o,om,gn,om,hown,HN.out,hbel⟩
    case measure=>exact j1
  have HN:Hid ((o++[t[k]])++clL (t.data.toList.drop (k+1))=clL t.data.toList):=by show _=_;rw[<-HE.out,Jb om om om om];simp
  have q9:((d:Int) !=9)=true:=bne_iff_ne.2 om;have q10:((d:Int) !=10)=true:=bne_iff_ne.2 om;have q13:((d:Int) !=13)=true:=bne_iff_ne.2 om;have HD:Hid ((d:Int)=(t[k].toNat:Int)):=by show _=_;omega
  clear hw h35;go_wp2_with (at_builtin;refine aC _ rfl _ _ 22 rfl w.heap.size 5 (.int .u8 0) 1 underlying22 info5 rfl _ _ _ rfl hown #[.int .u8 (d:Int)] 1 rfl rfl (jI _) om (by unfold maxLen;omega) om ?_);intro v' w1 hown' hb1;have R:=jH t[k] HD.out hown';have B1:Below w.heap.size w w1:=hbel.trans hb1;clear hown' hb1 hown hbel;go_wp2;go_roundw
  case rel=>exact ⟨k+1,_,om,gn,by simp;omega,R,HN.out,B1⟩
  case measure=>exact j1
 have HN:Hid (o=clL t.data.toList):=by
  show _=_;rw[<-HE.out,zn (by simp;omega)];simp[clL]
 have HO:=bG (P:=prog) wr 22 9 5 underlying22 underlying5 underlying9 hown;go_wp2;go_ret;exact ⟨oT (HN.out.trans HF.out.symm),hbel⟩
def yR(c:UInt8):UInt8:=if c=92 then 47 else c
def fT(l:List UInt8)(k:Nat):List UInt8:=(l.take k).map yR++l.drop k
theorem UU(l:List UInt8):fT l 0=l:=by simp[fT]
theorem vD(l:List UInt8)(k:Nat):(fT l k).length=l.length:=by simp[fT];omega
theorem MK(s:ByteArray)(k:Nat)(h:k<s.size)(h':k<(fT s.data.toList k).length):(fT s.data.toList k)[k]=s[k]:=by
 have hk:k<s.data.toList.length:=by simpa using h
 have e:(fT s.data.toList k)[k]? =some s[k]:=by
  unfold fT;rw[List.getElem?_append_right (by simp;omega)];simp only[List.length_map,zp,zv (Nat.le_of_lt hk),Nat.sub_self,List.getElem?_drop,Nat.add_zero];rw[ze hk];rfl
 rw[ze h']at e;exact Option.some.inj e
theorem BY(s:ByteArray)(k:Nat)(h:k<s.size):(fT s.data.toList k).set k (yR s[k])=fT s.data.toList (k+1):=by
 have hk:k<s.data.toList.length:=by simpa using h
 unfold fT;rw[List.set_append_right _ _ (by simp;omega)];rw[eW s k h,List.drop_eq_getElem_cons hk];simp[zv (Nat.le_of_lt h)]
theorem UW(s:ByteArray)(k:Nat)(h:k<s.size)(hc:yR s[k]=s[k]):fT s.data.toList k=fT s.data.toList (k+1):=by
 rw[<-BY s k h,hc];have h':k<(fT s.data.toList k).length:=by rw[vD];simpa using h
 rw[<-MK s k h h',List.set_getElem_self]
theorem YM(s:ByteArray)(k:Nat)(h:s.size<=k):fT s.data.toList k=eO s.data.toList:=by
 unfold fT eO;rw[dD s k h,List.drop_eq_nil_of_le (by simp;omega),zh];rfl
theorem gU(l:List UInt8):(eO l).length=l.length:=by simp[eO]
theorem Dh(s:ByteArray)(w:World)(hs:s.size<=4194304):Calls prog 117 #[L s] w fun e w'=>e=Y (L (cD (plB 1 ⟨(eO s.data.toList).toArray⟩)))/\Below w.heap.size w w':=by
 obtain ⟨cap,hcap⟩: ∃cap,grownCap w s.size 0 5=cap:=⟨_,rfl⟩;have hconv:=run_bytes_of_string w 9 22 5 s underlying9 underlying22 underlying5;rw[hcap]at hconv;have hmade:=wU w s cap 5;generalize hC:bytesRow s cap=C at hconv hmade;clear hC hcap;have hbs:(⟨(eO s.data.toList).toArray⟩:ByteArray).size<=4194304:=by
  show (eO s.data.toList).toArray.size<=_;rw[zs,gU];simpa using hs
 have CP:Hid (∀W,CB 41 #[L ⟨(eO s.data.toList).toArray⟩,I J 1] W (L (plB 1 ⟨(eO s.data.toList).toArray⟩))):=fun W=>mG ⟨(eO s.data.toList).toArray⟩ 1 W om
 have hps:(plB 1 ⟨(eO s.data.toList).toArray⟩).size<=16777216:=by
  show (plL 1 (eO s.data.toList)).toArray.size<=_;rw[zs];have h1:=XI 1 (eO s.data.toList);rw[gU]at h1;have h2:s.data.toList.length=s.size:=by simp
  omega
 have CD:Hid (∀W,CB 42 #[L (plB 1 ⟨(eO s.data.toList).toArray⟩)] W (L (cD (plB 1 ⟨(eO s.data.toList).toArray⟩)))):=fun W=>vC _ W hps
 generalize plB 1 ⟨(eO s.data.toList).toArray⟩=T at CP CD hps;go_enter func117,ntmps117;go_wp2_with fail
 go_loopw[4] (fun i wr=> ∃k:Nat,k<=s.size/\i=I J k/\lI wr w.heap.size (fT s.data.toList k)/\Below w.heap.size w wr)
  (fun i _=>s.size-(intOf i).toNat)
 case atStart=>exact ⟨0,zj _,rfl,by rw[UU];exact hmade,((zo _ _).alloc (zf _) _).drew⟩
 obtain ⟨k,hk,rfl,hat,hbel⟩:=hrel;clear hmade hconv
 by_cases hlt:k<s.size
 .have hl:k<(fT s.data.toList k).length:=by rw[vD];simpa using hlt
  obtain ⟨hc,hf⟩:=hat k hl;rw[MK s k hlt hl]at hc;obtain ⟨d,hd⟩: ∃d:Nat,s[k].toNat=d:=⟨_,rfl⟩;rw[hd]at hc
  by_cases h92:d=92
  .have HB:Hid (yR s[k]=47):=by
    show _=_;unfold yR;rw[if_pos (zd.1 (show s[k].toNat=(92:UInt8).toNat from hd.trans h92))]
   have HS:=BY s k hlt;have HSS:Hid ((fT s.data.toList k).set k (yR s[k])=fT s.data.toList (k+1)):=HS;subst h92;clear HS hd;go_wp2;go_roundw
   case rel=>
    refine ⟨k+1,om,gn,?_,hbel.setCell (zf _) _⟩;rw[<-HSS.out];exact hat.set k hl (yR s[k]) (by rw[HB.out];rfl)
   case measure=>exact j1
  have q92:((d:Int)==92)=false:=beq_eq_false_iff_ne.2 om;have HB:Hid (yR s[k]=s[k]):=by
   show _=_;unfold yR;rw[if_neg];intro e;exact h92 (by rw[<-hd,e];rfl)
  have HK:Hid (fT s.data.toList k=fT s.data.toList (k+1)):=UW s k hlt HB.out;clear hd h92;go_wp2;go_roundw
  case rel=>exact ⟨k+1,om,gn,by rw[<-HK.out];exact hat,hbel⟩
  case measure=>exact j1
 rw[YM s k om]at hat;have HO:=uS (P:=prog) wr 22 9 5 underlying22 underlying5 underlying9 (n:=s.size) (cap:=cap) (by rw[gU];simp) hat;generalize (⟨(eO s.data.toList).toArray⟩:ByteArray)=Z at HO CP hbs;go_wp2_with fail;refine (CP.out _).mono ?_;rintro e wa ⟨rfl,ba⟩;have Ba:Below w.heap.size w wa:=hbel.trans (ba.mono hbel.size);clear ba hbel;go_wp2_with fail;refine (CD.out _).mono ?_;rintro e wb ⟨rfl,bb⟩;have Bb:Below w.heap.size w wb:=Ba.trans (bb.mono Ba.size);clear bb Ba;go_wp2;go_ret;exact ⟨rfl,Bb⟩
def DL(l:List UInt8):Int:=match kV l with
 |none=> -1
 |some k=>(k:Int)
theorem T0{s:ByteArray}{k:Nat}(hk:k<s.size)(h:s[k].toNat=93):gD s.data.toList (k+1)=k:=by
 unfold gD;rw[if_pos];rw[jL s k hk];exact zd.1 h
theorem YN{s:ByteArray}{k:Nat}(hk:k<s.size)(h:s[k].toNat≠93):gD s.data.toList (k+1)=gD s.data.toList k:=by
 conv=>lhs;unfold gD
 rw[if_neg];rw[jL s k hk];intro e;exact h (by rw[e];rfl)
theorem GX(l:List UInt8): ∀k,gD l k<=k
 |0=>zf _
 |k+1=>by
  have:=GX l k
  unfold gD;split<;>omega
theorem T5{c:UInt8}{r:List UInt8}(h:c.toNat≠58):(c::r).findIdx? (fun c=>c==58)=(r.findIdx? fun c=>c==58).map (· +1):=by
 rw[z1,if_neg];intro e;rw[beq_iff_eq]at e;exact h (by rw[e];rfl)
theorem Di{c:UInt8}{r:List UInt8}(h:c.toNat=58):(c::r).findIdx? (fun c=>c==58)=some 0:=by
 rw[z1,if_pos];rw[beq_iff_eq];exact zd.1 h
theorem Jc{s:ByteArray}{j:Nat}(hj:j<s.size)(h:s[j].toNat=58)(he:kV s.data.toList=((s.data.toList.drop j).findIdx? fun c=>c==58).map (· +j)):(j:Int)=DL s.data.toList:=by
 unfold DL;rw[he,fO s j hj,Di h];simp
theorem Dj{s:ByteArray}{j:Nat}(hj:j<s.size)(h:s[j].toNat≠58)(he:kV s.data.toList=((s.data.toList.drop j).findIdx? fun c=>c==58).map (· +j)):kV s.data.toList=((s.data.toList.drop (j+1)).findIdx? fun c=>c==58).map (· +(j+1)):=by
 rw[he,fO s j hj,T5 h,Option.map_map]
 congr 1
 funext x
 show x+1+j=_;omega
theorem Jd{s:ByteArray}{j:Nat}(hj:s.size<=j)(he:kV s.data.toList=((s.data.toList.drop j).findIdx? fun c=>c==58).map (· +j)):(-1:Int)=DL s.data.toList:=by
 unfold DL;rw[he,zn (by simpa using hj)];rfl
theorem Dk(s:ByteArray)(w:World)(hs:s.size<=1048576):Calls prog 56 #[L s] w fun e w'=>e=Y (I J (DL s.data.toList))/\w=w':=by
 go_enter func56,ntmps56;go_wp2
 go_loop[3,4] (fun f i=> ∃k:Nat,k<=s.size/\i=I J k/\f=I J (gD s.data.toList k)) (fun _ i=>s.size-(intOf i).toNat)
 case atStart=>exact ⟨0,zj _,rfl,rfl⟩
 obtain ⟨k,hk,rfl,rfl⟩:=hrel;have hlb:=GX s.data.toList k
 by_cases hlt:k<s.size
 .obtain ⟨d,hd⟩: ∃d:Nat,s[k].toNat=d:=⟨_,rfl⟩
  by_cases h93:d=93
  .have HN:Hid (gD s.data.toList (k+1)=k):=T0 hlt om
   subst h93;go_wp2;go_round
   case rel=>exact ⟨k+1,om,gn,by rw[HN.out]⟩
   case measure=>exact j1
  have q:((d:Int)==93)=false:=beq_eq_false_iff_ne.2 om;have HN:Hid (gD s.data.toList (k+1)=gD s.data.toList k):=YN hlt om;clear h93;go_wp2;go_round
  case rel=>exact ⟨k+1,om,gn,by rw[HN.out]⟩
  case measure=>exact j1
 have hke:k=s.size:=om;rw[hke];have hle:=GX s.data.toList s.size;have HC:Hid (kV s.data.toList=((s.data.toList.drop (gD s.data.toList s.size)).findIdx? fun c=>c==58).map (· +gD s.data.toList s.size)):=by
  show _=_;unfold kV;rw[show s.data.toList.length=s.size by simp]
 clear hlb hlt hke hk;generalize gD s.data.toList s.size=F at hle HC;go_wp2_with fail
 go_loop[5] (fun i=> ∃j:Nat,j<=s.size/\i=I J j/\kV s.data.toList=((s.data.toList.drop j).findIdx? fun c=>c==58).map (· +j)) (fun i=>s.size-(intOf i).toNat)
 case atStart=>exact ⟨F,hle,rfl,HC.out⟩
 obtain ⟨j,hj,rfl,he⟩:=hrel;have HE:Hid (kV s.data.toList=((s.data.toList.drop j).findIdx? fun c=>c==58).map (· +j)):=he;clear he
 by_cases hlt:j<s.size
 .obtain ⟨d,hd⟩: ∃d:Nat,s[j].toNat=d:=⟨_,rfl⟩
  by_cases h58:d=58
  .have HN:Hid ((j:Int)=DL s.data.toList):=Jc hlt om HE.out
   subst h58;go_wp2;go_ret;exact ⟨aV HN.out,rfl⟩
  have q:((d:Int)==58)=false:=beq_eq_false_iff_ne.2 om;have HN:=Dj hlt om HE.out;have HM:Hid (kV s.data.toList=((s.data.toList.drop (j+1)).findIdx? fun c=>c==58).map (· +(j+1))):=HN;clear HN h58;go_wp2;go_round
  case rel=>exact ⟨j+1,om,gn,HM.out⟩
  case measure=>exact j1
 have HN:Hid ((-1:Int)=DL s.data.toList):=Jd om HE.out;go_wp2;go_ret;exact ⟨aV HN.out,rfl⟩

theorem wF(d:Nat)(x y:Int)(W:World):(Op.equalIn (d+1) 3 (I J x) (I J y)).run prog W=.ok (x==y) W:=run_equalIn_int W d 3 .i64 .i64 x y underlying3
theorem PY(d:Nat)(x y:ByteArray)(W:World):(Op.equalIn (d+1) 9 (L x) (L y)).run prog W=.ok (x.toList==y.toList) W:=run_equalIn_string W d 9 x y underlying9
def eqB(z y:List Int):Bool:=decide (z=y)
theorem Dl(z:List Int):eqB z z=true:=decide_eq_true rfl
theorem ML(d:Nat)(xs ys:Array Value)(W:World)(zx zy:Nat->Int): ∀(js:List Nat),
  (∀j∈js,(part 3 xs (j*1)).run prog W=.ok (I J (zx j)) W)->(∀j∈js,(part 3 ys (j*1)).run prog W=.ok (I J (zy j)) W)->
  (Op.eqItems (d+1) 3 1 xs ys js).run prog W=.ok (js.all fun j=>zx j==zy j) W
 |[],_,_=>by simp[Op.eqItems]
 |j::js,hx,hy=>by
  have ih:=ML d xs ys W zx zy js (fun i hi=>hx i (zz _ hi)) (fun i hi=>hy i (zz _ hi));simp only[Op.eqItems,Sem.run_bind,hx j z2,hy j z2,Result.andThen_ok,wF]
  cases h:(zx j==zy j)with
  |false=>simp[h]
  |true=>simp[h,ih]
theorem I9(x0 x1 x2 x3 x4 x5 x6 x7:Int)(W:World): ∀j∈[0,1,2,3,4,5,6,7],(part 3 #[I J x0,I J x1,I J x2,I J x3,I J x4,I J x5,I J x6,I J x7] (j*1)).run prog W=.ok (I J ([x0,x1,x2,x3,x4,x5,x6,x7].getD j 0)) W:=by
 intro j hj;simp only[List.mem_cons,List.not_mem_nil,or_false]at hj
 rcases hj with rfl|rfl|rfl|rfl|rfl|rfl|rfl|rfl<;>simp[part,isAgg3,go_sem]
theorem Mk(x0 x1 x2 x3 x4 x5 x6 x7 y0 y1 y2 y3 y4 y5 y6 y7:Int):([0,1,2,3,4,5,6,7].all fun j=>[x0,x1,x2,x3,x4,x5,x6,x7].getD j 0==[y0,y1,y2,y3,y4,y5,y6,y7].getD j 0)=eqB [x0,x1,x2,x3,x4,x5,x6,x7] [y0,y1,y2,y3,y4,y5,y6,y7]:=by
 unfold eqB;rw[Bool.eq_iff_iff,decide_eq_true_eq,List.all_eq_true];constructor
 .intro h
  have e: ∀j,j∈[0,1,2,3,4,5,6,7]->[x0,x1,x2,x3,x4,x5,x6,x7].getD j 0=[y0,y1,y2,y3,y4,y5,y6,y7].getD j 0:=fun j hj=>by simpa using h j hj
  have e0:x0=y0:=e 0 j2;have e1:x1=y1:=e 1 j2;have e2:x2=y2:=e 2 j2;have e3:x3=y3:=e 3 j2;have e4:x4=y4:=e 4 j2;have e5:x5=y5:=e 5 j2;have e6:x6=y6:=e 6 j2;have e7:x7=y7:=e 7 j2;rw[e0,e1,e2,e3,e4,e5,e6,e7]
 intro h j _;rw[h];simp
theorem eqA(d:Nat)(x0 x1 x2 x3 x4 x5 x6 x7 y0 y1 y2 y3 y4 y5 y6 y7:Int)(W:World):
  (Op.equalIn (d+2) 24 (H #[I J x0,I J x1,I J x2,I J x3,I J x4,I J x5,I J x6,I J x7]) (H #[I J y0,I J y1,I J y2,I J y3,I J y4,I J y5,I J y6,I J y7])).run prog W=.ok (eqB [x0,x1,x2,x3,x4,x5,x6,x7] [y0,y1,y2,y3,y4,y5,y6,y7]) W:=by
 obtain ⟨i0,hi,hz0,hz1,hz2⟩:=info_parts infoI5;rw[run_equalIn_array W (d+1) _ _ underlying24 hi,show prog.cellsOf 3=1 by kernel_rfl,show List.range 8=[0,1,2,3,4,5,6,7] from rfl,
  ML d _ _ W (fun j=>[x0,x1,x2,x3,x4,x5,x6,x7].getD j 0) (fun j=>[y0,y1,y2,y3,y4,y5,y6,y7].getD j 0) _ (I9 x0 x1 x2 x3 x4 x5 x6 x7 W) (I9 y0 y1 y2 y3 y4 y5 y6 y7 W),Mk x0 x1 x2 x3 x4 x5 x6 x7 y0 y1 y2 y3 y4 y5 y6 y7]
def yS(k:Int)(s:ByteArray)(n:Int)(z:List Int)(k':Int)(s':ByteArray)(n':Int)(z':List Int):Bool:=(k==k')&&((s.toList==s'.toList)&&((n==n')&&eqB z z'))
theorem BZ:((prog.fieldsOf 26).toList.map fun f=>(f.type,f.offset,decide (f.name≠ "_")))=[(3,0,true),(9,1,true),(3,2,true),(24,3,true)]:=kr
theorem dH(d:Nat)(f:Field)(fs:List Field)(xs ys:Array Value)(a b:Value)(r:Bool)(W:World)(hn:f.name≠ "_")(h1:(part f.type xs f.offset).run prog W=.ok a W)(h2:(part f.type ys f.offset).run prog W=.ok b W)(h3:(Op.equalIn d f.type a b).run prog W=.ok r W):
  (Op.eqFields d xs ys (f::fs)).run prog W=if r=true then (Op.eqFields d xs ys fs).run prog W else .ok false W:=by
 simp only[Op.eqFields,hn,ne_eq,not_false_eq_true,if_true,Sem.run_bind,h1,h2,h3,Result.andThen_ok]
 cases r<;>simp
theorem J0(k n:Int)(s:ByteArray)(x0 x1 x2 x3 x4 x5 x6 x7:Int)(W:World):(part 3 #[I J k,L s,I J n,I J x0,I J x1,I J x2,I J x3,I J x4,I J x5,I J x6,I J x7] 0).run prog W=.ok (I J k) W:=kr
theorem J1(k n:Int)(s:ByteArray)(x0 x1 x2 x3 x4 x5 x6 x7:Int)(W:World):(part 9 #[I J k,L s,I J n,I J x0,I J x1,I J x2,I J x3,I J x4,I J x5,I J x6,I J x7] 1).run prog W=.ok (L s) W:=kr
theorem J2(k n:Int)(s:ByteArray)(x0 x1 x2 x3 x4 x5 x6 x7:Int)(W:World):(part 3 #[I J k,L s,I J n,I J x0,I J x1,I J x2,I J x3,I J x4,I J x5,I J x6,I J x7] 2).run prog W=.ok (I J n) W:=kr
theorem J3(k n:Int)(s:ByteArray)(x0 x1 x2 x3 x4 x5 x6 x7:Int)(W:World):(part 24 #[I J k,L s,I J n,I J x0,I J x1,I J x2,I J x3,I J x4,I J x5,I J x6,I J x7] 3).run prog W=.ok (H #[I J x0,I J x1,I J x2,I J x3,I J x4,I J x5,I J x6,I J x7]) W:=kr
theorem eqH(k:Int)(s:ByteArray)(n:Int)(x0 x1 x2 x3 x4 x5 x6 x7:Int)(k':Int)(s':ByteArray)(n':Int)(y0 y1 y2 y3 y4 y5 y6 y7:Int)(W:World):
  (Op.equalIn 10000 26 (H #[I J k,L s,I J n,I J x0,I J x1,I J x2,I J x3,I J x4,I J x5,I J x6,I J x7]) (H #[I J k',L s',I J n',I J y0,I J y1,I J y2,I J y3,I J y4,I J y5,I J y6,I J y7])).run prog W=.ok (yS k s n [x0,x1,x2,x3,x4,x5,x6,x7] k' s' n' [y0,y1,y2,y3,y4,y5,y6,y7]) W:=by
 rw[show (10000:Nat)=9999+1 from rfl,run_equalIn_struct W 9999 26 _ _ kr kr];have hf:=BZ;generalize (prog.fieldsOf 26).toList=fs at hf;obtain ⟨f0,r0,rfl,e0,hf⟩:=zl.1 hf;obtain ⟨f1,r1,rfl,e1,hf⟩:=zl.1 hf;obtain ⟨f2,r2,rfl,e2,hf⟩:=zl.1 hf;obtain ⟨f3,r3,rfl,e3,hf⟩:=zl.1 hf
 obtain rfl:=List.map_eq_nil_iff.1 hf
 simp only[Prod.mk.injEq,decide_eq_true_eq]at e0 e1 e2 e3;obtain ⟨a0,a1,a2⟩:=e0;obtain ⟨b0,b1,b2⟩:=e1;obtain ⟨c0,c1,c2⟩:=e2;obtain ⟨d0,d1,d2⟩:=e3;rw[dH 9999 f0 _ _ _ (I J k) (I J k') (k==k') W a2 (by rw[a0,a1];exact J0 ..) (by rw[a0,a1];exact J0 ..) (by rw[a0];exact wF 9998 ..),
  dH 9999 f1 _ _ _ (L s) (L s') (s.toList==s'.toList) W b2 (by rw[b0,b1];exact J1 ..) (by rw[b0,b1];exact J1 ..) (by rw[b0];exact PY 9998 ..),
  dH 9999 f2 _ _ _ (I J n) (I J n') (n==n') W c2 (by rw[c0,c1];exact J2 ..) (by rw[c0,c1];exact J2 ..) (by rw[c0];exact wF 9998 ..),
  dH 9999 f3 _ _ _ (H #[I J x0,I J x1,I J x2,I J x3,I J x4,I J x5,I J x6,I J x7]) (H #[I J y0,I J y1,I J y2,I J y3,I J y4,I J y5,I J y6,I J y7]) (eqB [x0,x1,x2,x3,x4,x5,x6,x7] [y0,y1,y2,y3,y4,y5,y6,y7]) W d2 (by rw[d0,d1];exact J3 ..) (by rw[d0,d1];exact J3 ..) (by rw[d0];exact eqA 9997 ..)]
 unfold yS
 cases (k==k')<;>cases (s.toList==s'.toList)<;>cases (n==n')<;>cases (eqB [x0,x1,x2,x3,x4,x5,x6,x7] [y0,y1,y2,y3,y4,y5,y6,y7])<;>rfl
end
section
open Go.RowKit Go.Shelf
def jJ(r:Int):Bool:=decide (0<=r/\r<=1114111/\(r<55296∨57343<r))
theorem MM(r:Int):jJ r=true↔dU r:=by unfold jJ dU;exact decide_eq_true_iff
theorem YO(r:Int)(w:World):Calls prog 306 #[I J r] w fun e w'=>e=Y (.bool (jJ r))/\w=w':=by
 by_cases h0:r<0
 .have HV:Hid (jJ r=false):=by show _=_;unfold jJ;rw[decide_eq_false_iff_not];omega
  go_enter func306,ntmps306;go_wp2;go_ret;exact ⟨aF HV.out.symm,rfl⟩
 by_cases h1:1114111<r
 .have HV:Hid (jJ r=false):=by show _=_;unfold jJ;rw[decide_eq_false_iff_not];omega
  go_enter func306,ntmps306;go_wp2;go_ret;exact ⟨aF HV.out.symm,rfl⟩
 by_cases h2:r<55296
 .have HV:Hid (jJ r=true):=by show _=_;unfold jJ;rw[decide_eq_true_iff];omega
  go_enter func306,ntmps306;go_wp2;go_ret;exact ⟨aF (by rw[HV.out]),rfl⟩
 by_cases h3:57343<r
 .have HV:Hid (jJ r=true):=by show _=_;unfold jJ;rw[decide_eq_true_iff];omega
  go_enter func306,ntmps306;go_wp2;go_ret;exact ⟨aF (by rw[HV.out]),rfl⟩
 have HV:Hid (jJ r=false):=by show _=_;unfold jJ;rw[decide_eq_false_iff_not];omega
 go_enter func306,ntmps306;go_wp2;go_ret;exact ⟨aF (by rw[HV.out]),rfl⟩
theorem YP(r:Int)(w:World):Calls prog 298 #[I J r] w fun e w'=>e=Y (.bool (!(jJ r)))/\w=w':=by
 have HC:Hid (CS 306 #[I J r] w (.bool (jJ r))):=YO r w;generalize jJ r=b at HC;go_enter func298,ntmps298;go_wp2_with fail;refine HC.out.mono ?_;rintro e w' ⟨rfl,rfl⟩;go_wp2_with fail;go_ret;exact ⟨rfl,rfl⟩
theorem UX(w:World):PredAt prog 298 #[] (fun z:Int=>Value.int .i64 z) (fun z=> !jJ z) w:=by
 intro W x _;exact (YP x W).mono fun e w' h=>⟨h.1,0,h.2.symm⟩
theorem MN(l:List Nat)(n0 N cap g:Nat)(B:Nat)(w:World)(hN:l.length=N)(hN1:N<=1048576)(hv: ∀c∈l,c<=1114111)(hex:aL n0 l<=1114111)(hown:w.ownsRow B 3 1 (.slice (some ⟨g,0,none⟩) N cap) N (icN l)):Calls prog 299 #[.slice (some ⟨g,0,none⟩) N cap,I J (n0:Int)] w fun e w'=>e=Y (I J (aL n0 l:Int))/\w=w':=by
 have HL:Hid (l.length=N):=hN;have HV:Hid (∀c∈l,c<=1114111):=hv;have H0:Hid (mO n0 1114111 l=aL n0 l):=by
  show _=_;rw[AF n0 l _ de];split<;>omega
 clear hN hv hex;go_enter func299,ntmps299;go_wp2_with fail
 go_loop[5,10] (fun a i=> ∃k m:Nat,k<=N/\i=I J k/\a=I J m/\m<=1114112/\mO n0 m (l.drop k)=aL n0 l) (fun _ i=>N-(intOf i).toNat)
 case atStart=>exact ⟨0,1114111,zj _,rfl,rfl,de,H0.out⟩
 obtain ⟨k,m,hk,rfl,rfl,hm,he⟩:=hrel;have HE:Hid (mO n0 m (l.drop k)=aL n0 l):=he;clear he
 by_cases hlt:k<N
 .have ca:=lC hown k hlt
  have HS:Hid (l.drop k=l.getD k 0::l.drop (k+1)):=oB l k (by have:=HL.out;omega);have hc:=HV.out (l.getD k 0) (by
   rw[zk,ze (by have:=HL.out;omega)];exact z4 _)
  generalize l.getD k 0=c at ca HS hc;have HR:Hid (mO n0 (if n0<=c/\c<m then c else m) (l.drop (k+1))=aL n0 l):=by show _=_;rw[<-HE.out,HS.out];rfl
  by_cases h1:(n0:Int)<=(c:Int)
  .by_cases h2:(c:Int)<(m:Int)
   .rw[if_pos om]at HR
    go_wp2_with fail;go_round
    case rel=>exact ⟨k+1,c,om,gn,gn,om,HR.out⟩
    case measure=>exact j1
   rw[if_neg om]at HR;go_wp2_with fail;go_round
   case rel=>exact ⟨k+1,m,om,gn,gn,hm,HR.out⟩
   case measure=>exact j1
  rw[if_neg om]at HR;go_wp2_with fail;go_round
  case rel=>exact ⟨k+1,m,om,gn,rfl,hm,HR.out⟩
  case measure=>exact j1
 have HR:Hid (m=aL n0 l):=by
  show _=_;rw[<-HE.out,zn (by have:=HL.out;omega)];rfl
 go_wp2_with fail;go_ret;exact ⟨aV (by rw[<-HR.out]),rfl⟩
