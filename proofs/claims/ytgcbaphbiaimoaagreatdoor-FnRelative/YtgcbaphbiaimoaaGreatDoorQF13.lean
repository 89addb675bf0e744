/- Parse6Spec, Par6Impl. -/
import Derived.Test.YtgcbaphbiaimoaaGreatDoorQF12
set_option maxHeartbeats 8000000
set_option maxRecDepth 20000
namespace Go.Proofs.YtgcbaphbiaimoaaGreatDoor
open Go.Value renaming int->I,string->L,tuple->H,bool->G
open Go.IntKind renaming i64->J
open Go.Ending renaming returned->Y
open Go.Obj renaming cells->Z
open _root_.Go.RowKit.Below renaming refl->zn
open _root_.ByteArray renaming empty->ze,size_extract->zc
open _root_.List renaming getD->z0,getD_eq_getElem?_getD->zh,getElem?_cons_succ->zl,getElem?_cons_zero->zk,getElem_of_mem->zr,isPrefixOf->zo,length_append->zf,length_drop->zy,length_take->zj,replicate->zg,set_append_right->zq,set_cons_zero->zs,size_toArray->zv,take_length->zw,take_of_length_le->zm
open _root_.Nat renaming le_refl->za,zero_le->zi
open _root_.Option renaming getD_some->zx,isSome_none->zt,isSome_some->zu
open _root_.Go.World renaming cell?_setCell_other->zd,frozen?_setCell->zp
open _root_.Go.Proofs.Tryz
open _root_.Go.Proofs.YtgcbaphbiaimoaaGreatDoor.Tryz
open Go.RowKit
def jG(r:Option (List Nat)):Value:=match r with
 |none=> H #[.agg #[I J 0,I J 0,I J 0,I J 0,I J 0,I J 0,I J 0,I J 0],G false]
 |some gs=> H #[.agg ((toI gs).map (Value.int .i64)).toArray,G true]
def dW(w:World)(B:Nat)(z:List Int):Prop:=z.length=8/\ ∀j,j<8->w.cell? ⟨B,j,none⟩=some (I J (z.getD j 0))/\w.frozen? ⟨B,j,none⟩=false
theorem LX{w w':World}(hb:Below w.heap.size w w'){B j:Nat}{v:Value}(hc:w.cell? ⟨B,j,none⟩=some v)(h:w.frozen? ⟨B,j,none⟩=false):w'.frozen? ⟨B,j,none⟩=false:=by
 have hB:B<w.heap.size:=World.block_lt_of_cell? w ⟨B,j,none⟩ hc;have e:=hb.block B hB;unfold World.frozen? at h⊢;simp only[e];exact h
theorem dW.later{w w':World}{B:Nat}{z:List Int}(h:dW w B z)(hb:Below w.heap.size w w'):dW w' B z:=
 ⟨h.1,fun j hj=>⟨cell_later hb (h.2 j hj).1,LX hb (h.2 j hj).1 (h.2 j hj).2⟩⟩
theorem dW.set{w:World}{B:Nat}{z:List Int}(h:dW w B z)(k:Nat)(hk:k<8)(x:Int):dW (w.setCell ⟨B,k,none⟩ (I J x)) B (z.set k x):=by
 refine ⟨by rw[List.length_set];exact h.1,fun j hj=>⟨?_,by rw[zp];exact (h.2 j hj).2⟩⟩
 by_cases e:k=j
 .subst e
  rw[World.cell?_setCell_same' _ _ _ (by rw[(h.2 k hk).1];rfl)];simp[z0,h.1,hk]
 rw[zd _ _ _ _ (fun h=>e (by injection h)),(h.2 j hj).1];simp[z0,List.getElem?_set_ne e]
theorem sW(w:World):dW (w.alloc (Z #[I J 0,I J 0,I J 0,I J 0,I J 0,I J 0,I J 0,I J 0] 24)) w.heap.size [0,0,0,0,0,0,0,0]:=
 ⟨rfl,fun j hj=>⟨Ft w 0 0 0 0 0 0 0 0 j hj,World.frozen?_alloc_new _ _ _ _⟩⟩
def oU(l:List Int)(k:Nat):List Int:=l.take k++zg (8-k) 0
theorem PY{l:List Int}{k:Nat}(h:k<l.length)(h8:l.length<=8):(oU l k).set k (l.getD k 0)=oU l (k+1):=by
 unfold oU;have h1:(l.take k).length=k:=by rw[zj];omega
 rw[zq _ _ om,h1,Nat.sub_self,show 8-k=(8-(k+1))+1 by omega,List.replicate_succ,zs,pY l k h];simp
theorem C5{l:List Int}(h:l.length=8):oU l 8=l:=by unfold oU;rw[zm om];simp
def yI(z b:List Int)(i:Nat):List Int:=z.take (8-b.length)++b.take i++z.drop (8-b.length+i)
theorem S1{z b:List Int}{i:Nat}(hz:z.length=8)(hb:b.length<=8)(h:i<b.length):(yI z b i).set (8-b.length+i) (b.getD i 0)=yI z b (i+1):=by
 unfold yI;have h1:(z.take (8-b.length)++b.take i).length=8-b.length+i:=by rw[zf,zj,zj];omega
 have h2:z.drop (8-b.length+i)=z.getD (8-b.length+i) 0::z.drop (8-b.length+i+1):=by
  rw[List.drop_eq_getElem_cons om];simp[z0,show 8-b.length+i<z.length by omega]
 rw[zq _ _ om,h1,Nat.sub_self,h2,zs,pY b i h,show 8-b.length+(i+1)=8-b.length+i+1 by omega];simp
theorem C6{z b:List Int}:yI z b 0=z:=by unfold yI;simp
theorem C7{a b:List Int}(h:a.length+b.length<=7):yI (oU a a.length) b b.length=a++zg (8-a.length-b.length) 0++b:=by
 unfold yI oU;rw[zw,zw];have h1:(a++zg (8-a.length) 0).take (8-b.length)=a++zg (8-a.length-b.length) (0:Int):=by
  rw[List.take_append,zm om,List.take_replicate,show min (8-b.length-a.length) (8-a.length)=8-a.length-b.length by omega]
 rw[h1,List.drop_of_length_le (by simp;omega)];simp
theorem S3(a b:List Nat):toI (iA a b)=toI a++zg (8-(toI a).length-(toI b).length) 0++toI b:=by
 unfold toI iA;simp
theorem S4{l:List Int}{k:Nat}(hk:k<=l.length)(h8:l.length<=8):(oU l k).length=8:=by
 unfold oU;simp;omega
theorem C8{l:List UInt8}(h:iD l=none):dQ l=match cX true l with
  |none=>none
  |some g=>if g.length=8 then some g else none:=by
 unfold dQ;rw[AV,h];rfl
theorem C9{l:List UInt8}{k:Nat}(h:iD l=some k):dQ l=match cX false (l.take k),cX true (l.drop (k+2))with
  |some x,some y=>if x.length+y.length<=7 then some (iA x y)else none
  |_,_=>none:=by
 unfold dQ;rw[AV,h];rfl
theorem bN{w:World}{B:Nat}{z:List Int}(h:dW w B z):Hid (dW w B z):=h
theorem cR{W:World}{B:Nat}{z:List Int}(h:dW W B z)(x0 x1 x2 x3 x4 x5 x6 x7:Int):dW ((((((((W.setCell ⟨B,0,none⟩ (I J x0)).setCell ⟨B,1,none⟩ (I J x1)).setCell ⟨B,2,none⟩ (I J x2)).setCell ⟨B,3,none⟩ (I J x3)).setCell ⟨B,4,none⟩ (I J x4)).setCell ⟨B,5,none⟩ (I J x5)).setCell ⟨B,6,none⟩ (I J x6)).setCell ⟨B,7,none⟩ (I J x7)) B [x0,x1,x2,x3,x4,x5,x6,x7]:=by
 have h1:=(((((((h.set 0 de x0).set 1 de x1).set 2 de x2).set 3 de x3).set 4 de x4).set 5 de x5).set 6 de x6).set 7 de x7;obtain ⟨a,b,c,d,e,f,g,i,rfl⟩: ∃a b c d e f g i:Int,z=[a,b,c,d,e,f,g,i]:=by
  match z,h.1 with
  |[a,b,c,d,e,f,g,i],_=>exact ⟨a,b,c,d,e,f,g,i,rfl⟩
 exact h1
theorem bV{n:Nat}{w W:World}(h:Below n w W){B:Nat}(hB:n<=B)(x0 x1 x2 x3 x4 x5 x6 x7:Int):Below n w ((((((((W.setCell ⟨B,0,none⟩ (I J x0)).setCell ⟨B,1,none⟩ (I J x1)).setCell ⟨B,2,none⟩ (I J x2)).setCell ⟨B,3,none⟩ (I J x3)).setCell ⟨B,4,none⟩ (I J x4)).setCell ⟨B,5,none⟩ (I J x5)).setCell ⟨B,6,none⟩ (I J x6)).setCell ⟨B,7,none⟩ (I J x7)):=by
 have st: ∀(U:World) (j:Nat) (x:Value),Below n w U->Below n w (U.setCell ⟨B,j,none⟩ x):=fun U j x hU=>hU.setCell (p:=⟨B,j,none⟩) hB _
 exact st _ _ _ (st _ _ _ (st _ _ _ (st _ _ _ (st _ _ _ (st _ _ _ (st _ _ _ (st _ _ _ h)))))))
theorem cI{fn:Func}{p q:Tmp}(h:fn.results= #[.cell p 24,.tmp q])(tmps:Array Value)(W:World)(B:Nat)(b:Bool)(x0 x1 x2 x3 x4 x5 x6 x7:Int)
  (hp:tmps[p]?.getD undef=.pointer (some ⟨B,0,none⟩)) (hq:tmps[q]?.getD undef=G b) (ha:dW W B [x0,x1,x2,x3,x4,x5,x6,x7]):
  (results fn tmps).run prog W=.ok (H #[.agg #[I J x0,I J x1,I J x2,I J x3,I J x4,I J x5,I J x6,I J x7],G b]) W:=by
 have c0:=(ha.2 0 de).1;have c1:=(ha.2 1 de).1;have c2:=(ha.2 2 de).1;have c3:=(ha.2 3 de).1;have c4:=(ha.2 4 de).1;have c5:=(ha.2 5 de).1;have c6:=(ha.2 6 de).1;have c7:=(ha.2 7 de).1;simp at c0 c1 c2 c3 c4 c5 c6 c7;simp[results,h,hp,hq,asAddr,go_sem,c0,c1,c2,c3,c4,c5,c6,c7,Addr.add_lit]
theorem dW.other{w:World}{B:Nat}{z:List Int}(h:dW w B z){B':Nat}(hne:B≠B')(j:Nat)(x:Value):dW (w.setCell ⟨B',j,none⟩ x) B z:=
 ⟨h.1,fun i hi=>⟨by rw[zd _ _ _ _ (fun h=>hne (by injection h with h1 _;exact h1.symm))];exact (h.2 i hi).1,by rw[zp];exact (h.2 i hi).2⟩⟩
theorem DY{w:World}{B:Nat}{z:List Int}(h:dW w B z): ∃a b c d e f g i:Int,z=[a,b,c,d,e,f,g,i]:=by
 match z,h.1 with
 |[a,b,c,d,e,f,g,i],_=>exact ⟨a,b,c,d,e,f,g,i,rfl⟩
def lD(w:World)(B:Nat)(ao:Option Addr)(z:List Int):Prop:=0<z.length-> ∃g,ao=some ⟨g,0,none⟩/\B<=g/\ ∀j,j<z.length->w.cell? ⟨g,j,none⟩=some (I J (z.getD j 0))
theorem lD.later{w w':World}{B:Nat}{ao:Option Addr}{z:List Int}(h:lD w B ao z)(hb:Below w.heap.size w w'):lD w' B ao z:=fun h0=>by
 obtain ⟨g,h1,h2,h3⟩:=h h0;exact ⟨g,h1,h2,fun j hj=>cell_later hb (h3 j hj)⟩
theorem lD.other{w:World}{B:Nat}{ao:Option Addr}{z:List Int}(h:lD w B ao z){B':Nat}(hB:B'<B)(i:Nat)(x:Value):lD (w.setCell ⟨B',i,none⟩ x) B ao z:=fun h0=>by
 obtain ⟨g,h1,h2,h3⟩:=h h0;refine ⟨g,h1,h2,fun j hj=> ?_⟩;rw[zd _ _ _ _ (fun h=>by injection h;omega)];exact h3 j hj
theorem wK{w:World}{B:Nat}{e:TypeId}{v:Value}{n:Nat}{z:List Int}(h:w.ownsRow B e 1 v n (aL z))(hz:z.length=n): ∃ao cap,v=.slice ao n cap/\lD w B ao z:=by
 rcases aQ h with ⟨h0,_,ao,cap,rfl⟩|⟨h0,g,cap,rfl⟩
 .exact ⟨ao,cap,by rw[h0],fun h1=>by omega⟩
 exact ⟨_,cap,rfl,fun _=>⟨g,rfl,(h.lt g rfl).1,fun j hj=>oX h j om⟩⟩
theorem LY(s:ByteArray)(w:World)(hs:s.size<=1048576):Calls prog 114 #[L s] w fun e w'=>e=Y (jG (dQ s.data.toList))/\Below w.heap.size w w':=by
 have CD:Hid (∀W,CB 167 #[L s] W (I J (GG (iD s.data.toList)))):=fun W=>UL s W hs
 have AR:Hid (dW ((w.alloc (Z #[I J 0,I J 0,I J 0,I J 0,I J 0,I J 0,I J 0,I J 0] 24)).alloc (Z #[I J 0,I J 0,I J 0,I J 0,I J 0,I J 0,I J 0,I J 0] 24)) w.heap.size [0,0,0,0,0,0,0,0]):=(sW w).later ((zn _ _).alloc (za _) _);have AO:Hid (dW ((w.alloc (Z #[I J 0,I J 0,I J 0,I J 0,I J 0,I J 0,I J 0,I J 0] 24)).alloc (Z #[I J 0,I J 0,I J 0,I J 0,I J 0,I J 0,I J 0,I J 0] 24)) (w.heap.size+1) [0,0,0,0,0,0,0,0]):=by
  have h:=sW (w.alloc (Z #[I J 0,I J 0,I J 0,I J 0,I J 0,I J 0,I J 0,I J 0] 24));rw[show (w.alloc (Z #[I J 0,I J 0,I J 0,I J 0,I J 0,I J 0,I J 0,I J 0] 24)).heap.size=w.heap.size+1 by simp]at h;exact h
 have B0:Hid (Below w.heap.size w ((w.alloc (Z #[I J 0,I J 0,I J 0,I J 0,I J 0,I J 0,I J 0,I J 0] 24)).alloc (Z #[I J 0,I J 0,I J 0,I J 0,I J 0,I J 0,I J 0,I J 0] 24))):=((zn _ w).alloc (za _) _).alloc j2 _;have Z0:Hid (((w.alloc (Z #[I J 0,I J 0,I J 0,I J 0,I J 0,I J 0,I J 0,I J 0] 24)).alloc (Z #[I J 0,I J 0,I J 0,I J 0,I J 0,I J 0,I J 0,I J 0] 24)).heap.size=w.heap.size+2):=by show _=_;simp
 cases hd:iD s.data.toList with
 |none=>
  rw[hd]at CD;have CG:Hid (∀W,Calls prog 168 #[L s,G true] W fun e w'=>LW W w' (cX true s.data.toList) e/\Below W.heap.size W w'):=fun W=>uM s true W hs
  have HP:Hid (dQ s.data.toList=match cX true s.data.toList with
   |none=>none
   |some g=>if g.length=8 then some g else none):=C8 hd
  generalize cX true s.data.toList=r at CG HP;clear hd;simp only[GG]at CD;go_enter func114,ntmps114;go_wp2_with fail;refine (CD.out _).mono ?_;rintro e w1 ⟨rfl,b1⟩;go_wp2_with fail;refine (CG.out _).mono ?_;rintro e w2 ⟨⟨v,l,rfl,ol,hll,hrl⟩,b2⟩;have b12:=b1.trans (b2.mono b1.size);have RA:=AR.out.later b12;have OA:=AO.out.later b12;have B2:=B0.out.trans (b12.mono B0.out.size);have HRL:Hid (∀gs,r=some gs->l=gs):=hrl;have z1:w.heap.size+2<=w1.heap.size:=by have:=Z0.out;have:=b1.size;omega
  clear b12 b2 b1 hrl
  by_cases h8:l.length=8
  .rcases aQ ol with ⟨h,_⟩|⟨_,g,cap,rfl⟩
   .omega
   have hg:=(ol.lt g rfl).1;have HCL:Hid (∀j,j<8->w2.cell? ⟨g,j,none⟩=some (I J ((toI l).getD j 0))):=fun j hj=>oX ol j om
   have HTL:Hid ((toI l).length=8):=by show _=_;rw[fR];exact h8
   have HH8:Hid (l.length=8):=h8;rw[h8];have HRA:=bN RA;have HOA:=bN OA;have HB2:Hid (Below w.heap.size w w2):=B2;clear ol h8 RA OA B2 CD CG AR AO B0 Z0 hll;go_wp2_with fail
   go_loopw[8] (fun i wr=> ∃k:Nat,k<=8/\i=I J k/\dW wr (w.heap.size+1) (oU (toI l) k)/\dW wr w.heap.size [0,0,0,0,0,0,0,0]/\(∀j,j<8->wr.cell? ⟨g,j,none⟩=some (I J ((toI l).getD j 0)))/\Below w.heap.size w wr) (fun i _=>8-(intOf i).toNat)
   case atStart=>exact ⟨0,zi _,rfl,HOA.out,HRA.out,HCL.out,HB2.out⟩
   obtain ⟨k,hk,rfl,oa,ra,hcl,hbel⟩:=hrel;have HOW:=bN oa;have HRW:=bN ra;have HCW:Hid (∀j,j<8->wr.cell? ⟨g,j,none⟩=some (I J ((toI l).getD j 0))):=hcl;clear oa ra hcl HRA HOA HCL HB2
   by_cases hlt:k<8
   .have hc:=HCW.out k hlt
    have ho:=(HOW.out.2 k hlt).1;have hof:=(HOW.out.2 k hlt).2;have HPS:Hid ((oU (toI l) k).set k ((toI l).getD k 0)=oU (toI l) (k+1)):=PY (by have:=HTL.out;omega) (by have:=HTL.out;omega);have hki:(k:Int)<8:=om;generalize (toI l).getD k 0=y at hc HPS;generalize (oU (toI l) k).getD k 0=y0 at ho;go_wp2_with fail;go_roundw
    case rel=>
     refine ⟨k+1,om,gn,?_,?_,?_,?_⟩
     .have h:=HOW.out.set k hlt y
      rw[HPS.out]at h;exact h
     .exact HRW.out.other om _ _
     .intro j hj
      rw[zd _ _ _ _ (fun h=>by injection h;omega)];exact HCW.out j hj
     exact hbel.setCell (p:=⟨w.heap.size+1,k,none⟩) j2 _
    case measure=>exact j1
   have hki: ¬(k:Int)<8:=om
   obtain rfl:k=8:=om
   generalize hq:r.isSome=q at*
   cases q with
   |true=>
    obtain ⟨gs,hgs⟩:=Option.isSome_iff_exists.1 hq;have hlg:=HRL.out gs hgs;have HZ:Hid (jG (dQ s.data.toList)=H #[.agg ((toI l).map (Value.int .i64)).toArray,G true]):=by
     show _=_;rw[HP.out,hgs];simp only;rw[if_pos (by rw[<-hlg];exact HH8.out),hlg];rfl
    have OA8:=HOW.out;rw[C5 HTL.out]at OA8;obtain ⟨x0,x1,x2,x3,x4,x5,x6,x7,hx⟩:=DY OA8;rw[hx]at OA8 HZ;have HRQ:Hid (r.isSome=true):=hq;clear hq hgs hlg hx HOW HCW;have HOA8:=bN OA8;have o0:=(OA8.2 0 de).1;have o1:=(OA8.2 1 de).1;have o2:=(OA8.2 2 de).1;have o3:=(OA8.2 3 de).1;have o4:=(OA8.2 4 de).1;have o5:=(OA8.2 5 de).1;have o6:=(OA8.2 6 de).1;have o7:=(OA8.2 7 de).1;clear OA8;simp only[zh,zk,zl,zx]at o0 o1 o2 o3 o4 o5 o6 o7;have RA:=HRW.out;have r0:=(RA.2 0 de).1;have r1:=(RA.2 1 de).1;have r2:=(RA.2 2 de).1;have r3:=(RA.2 3 de).1;have r4:=(RA.2 4 de).1;have r5:=(RA.2 5 de).1;have r6:=(RA.2 6 de).1;have r7:=(RA.2 7 de).1;have f0:=(RA.2 0 de).2;have f1:=(RA.2 1 de).2;have f2:=(RA.2 2 de).2;have f3:=(RA.2 3 de).2;have f4:=(RA.2 4 de).2;have f5:=(RA.2 5 de).2;have f6:=(RA.2 6 de).2;have f7:=(RA.2 7 de).2;have HRA:=bN RA;clear RA;go_wp2_with fail;refine bodyPost_ret (cI rfl _ _ w.heap.size true x0 x1 x2 x3 x4 x5 x6 x7 rfl rfl (cR HRA.out x0 x1 x2 x3 x4 x5 x6 x7)) rfl ⟨by rw[HZ.out];rfl,bV hbel (za _) x0 x1 x2 x3 x4 x5 x6 x7⟩
   |false=>
    have HZ:Hid (jG (dQ s.data.toList)=jG none):=by
     show _=_;rw[HP.out]
     cases hr:r with
     |none=>rfl
     |some gs=>rw[hr]at hq;cases hq
    clear hq;have RA:=HRW.out;have r0:=(RA.2 0 de).1;have r1:=(RA.2 1 de).1;have r2:=(RA.2 2 de).1;have r3:=(RA.2 3 de).1;have r4:=(RA.2 4 de).1;have r5:=(RA.2 5 de).1;have r6:=(RA.2 6 de).1;have r7:=(RA.2 7 de).1;have f0:=(RA.2 0 de).2;have f1:=(RA.2 1 de).2;have f2:=(RA.2 2 de).2;have f3:=(RA.2 3 de).2;have f4:=(RA.2 4 de).2;have f5:=(RA.2 5 de).2;have f6:=(RA.2 6 de).2;have f7:=(RA.2 7 de).2;have HRA:=bN RA;clear RA;go_wp2_with fail;refine bodyPost_ret (cI rfl _ _ w.heap.size false 0 0 0 0 0 0 0 0 rfl rfl (cR HRA.out 0 0 0 0 0 0 0 0)) rfl ⟨by rw[HZ.out];rfl,bV hbel (za _) 0 0 0 0 0 0 0 0⟩
  have HZ:Hid (jG (dQ s.data.toList)=jG none):=by
   show _=_;rw[HP.out]
   cases hr:r with
   |none=>rfl
   |some gs=>
    simp only;rw[if_neg (by rw[<-HRL.out gs hr];exact h8)]
  have h8':((l.length:Int)==8)=false:=by simp;omega
  have r0:=(RA.2 0 de).1;have r1:=(RA.2 1 de).1;have r2:=(RA.2 2 de).1;have r3:=(RA.2 3 de).1;have r4:=(RA.2 4 de).1;have r5:=(RA.2 5 de).1;have r6:=(RA.2 6 de).1;have r7:=(RA.2 7 de).1;have f0:=(RA.2 0 de).2;have f1:=(RA.2 1 de).2;have f2:=(RA.2 2 de).2;have f3:=(RA.2 3 de).2;have f4:=(RA.2 4 de).2;have f5:=(RA.2 5 de).2;have f6:=(RA.2 6 de).2;have f7:=(RA.2 7 de).2;have HRA:=bN RA;clear RA
  rcases aQ ol with ⟨h,_,ao,cap,rfl⟩|⟨hpl,g,cap,rfl⟩
  .generalize r.isSome=q at*
   clear ol OA h8' h8 h
   cases q with
   |true=>
    go_wp2_with fail;refine wp_loop_rounds 1 ?_;rw[rounds_succ];go_wp2_with fail;refine bodyPost_ret (cI rfl _ _ w.heap.size false 0 0 0 0 0 0 0 0 rfl rfl (cR HRA.out 0 0 0 0 0 0 0 0)) rfl ⟨by rw[HZ.out];rfl,bV B2 (za _) 0 0 0 0 0 0 0 0⟩
   |false=>
    go_wp2_with fail;refine wp_loop_rounds 1 ?_;rw[rounds_succ];go_wp2_with fail;refine bodyPost_ret (cI rfl _ _ w.heap.size false 0 0 0 0 0 0 0 0 rfl rfl (cR HRA.out 0 0 0 0 0 0 0 0)) rfl ⟨by rw[HZ.out];rfl,bV B2 (za _) 0 0 0 0 0 0 0 0⟩
  have hpl':0<(l.length:Int):=om;generalize r.isSome=q at*;clear ol OA h8
  cases q with
  |true=>
   go_wp2_with fail;refine wp_loop_rounds 1 ?_;rw[rounds_succ];go_wp2_with fail;refine bodyPost_ret (cI rfl _ _ w.heap.size false 0 0 0 0 0 0 0 0 rfl rfl (cR HRA.out 0 0 0 0 0 0 0 0)) rfl ⟨by rw[HZ.out];rfl,bV B2 (za _) 0 0 0 0 0 0 0 0⟩
  |false=>
   go_wp2_with fail;refine wp_loop_rounds 1 ?_;rw[rounds_succ];go_wp2_with fail;refine bodyPost_ret (cI rfl _ _ w.heap.size false 0 0 0 0 0 0 0 0 rfl rfl (cR HRA.out 0 0 0 0 0 0 0 0)) rfl ⟨by rw[HZ.out];rfl,bV B2 (za _) 0 0 0 0 0 0 0 0⟩
 |some k=>
  have hk2:=R9 hd;have hsl:s.data.toList.length=s.size:=by simp
  rw[hsl]at hk2;have ea:(s.extract 0 k).data.toList=s.data.toList.take k:=by rw[aZ];simp
  have eb:(s.extract (k+2) s.size).data.toList=s.data.toList.drop (k+2):=by rw[aZ,cS s s.size (za _)]
  have CA:Hid (∀W,Calls prog 168 #[L (s.extract 0 k),G false] W fun e w'=>LW W w' (cX false (s.data.toList.take k)) e/\Below W.heap.size W w'):=fun W=>by
   rw[<-ea];exact uM _ false W (by rw[zc];omega)
  have CB:Hid (∀W,Calls prog 168 #[L (s.extract (k+2) s.size),G true] W fun e w'=>LW W w' (cX true (s.data.toList.drop (k+2))) e/\Below W.heap.size W w'):=fun W=>by
   rw[<-eb];exact uM _ true W (by rw[zc];omega)
  have HP:Hid (dQ s.data.toList=match cX false (s.data.toList.take k),cX true (s.data.toList.drop (k+2))with
   |some x,some y=>if x.length+y.length<=7 then some (iA x y)else none
   |_,_=>none):=C9 hd
  rw[hd]at CD;simp only[GG]at CD;clear ea eb hsl hd;generalize cX false (s.data.toList.take k)=ra at CA HP;generalize cX true (s.data.toList.drop (k+2))=rb at CB HP;have hk3:(k:Int)+2<=(s.size:Int):=om;have hk4: ¬(k:Int)<0:=om;go_enter func114,ntmps114;go_wp2_with fail;refine (CD.out _).mono ?_;rintro e w1 ⟨rfl,b1⟩;go_wp2_with fail;refine (CA.out _).mono ?_;rintro e w2 ⟨⟨va,la,rfl,oa,hla,hra⟩,b2⟩;go_wp2_with fail;refine (CB.out _).mono ?_;rintro e w3 ⟨⟨vb,lb,rfl,ob,hlb,hrb⟩,b3⟩;have b12:=b1.trans (b2.mono b1.size);have b13:=b12.trans (b3.mono b12.size);have AR3:=bN (AR.out.later b13);have AO3:=bN (AO.out.later b13);have B3:Hid (Below w.heap.size w w3):=B0.out.trans (b13.mono B0.out.size);have oa':=aH oa b3;have z1:w.heap.size+2<=w1.heap.size:=by have:=Z0.out;have:=b1.size;omega
  have z2:w.heap.size+2<=w2.heap.size:=Nat.le_trans z1 b2.size;obtain ⟨aoa,capa,rfl,ra0⟩:=wK oa' (fR la);obtain ⟨aob,capb,rfl,rb0⟩:=wK ob (fR lb);have HRA0:Hid (lD w3 (w.heap.size+2) aoa (toI la)):=fun h0=>by
   obtain ⟨g,h1,h2,h3⟩:=ra0 h0;exact ⟨g,h1,om,h3⟩
  have HRB0:Hid (lD w3 (w.heap.size+2) aob (toI lb)):=fun h0=>by
   obtain ⟨g,h1,h2,h3⟩:=rb0 h0;exact ⟨g,h1,om,h3⟩
  have HLA:Hid (∀gs,ra=some gs->la=gs):=hra;have HLB:Hid (∀gs,rb=some gs->lb=gs):=hrb;clear ra0 rb0 oa oa' ob b1 b2 b3 b12 b13 hra hrb AR AO B0 Z0 CA CB CD z1 z2
  cases ra with
  |none=>
   have HZ:Hid (jG (dQ s.data.toList)=jG none):=by show _=_;rw[HP.out]
   simp only[zt];have RA:=AR3.out;have r0:=(RA.2 0 de).1;have r1:=(RA.2 1 de).1;have r2:=(RA.2 2 de).1;have r3:=(RA.2 3 de).1;have r4:=(RA.2 4 de).1;have r5:=(RA.2 5 de).1;have r6:=(RA.2 6 de).1;have r7:=(RA.2 7 de).1;have f0:=(RA.2 0 de).2;have f1:=(RA.2 1 de).2;have f2:=(RA.2 2 de).2;have f3:=(RA.2 3 de).2;have f4:=(RA.2 4 de).2;have f5:=(RA.2 5 de).2;have f6:=(RA.2 6 de).2;have f7:=(RA.2 7 de).2;have HRA:=bN RA;clear RA;go_wp2_with fail;refine bodyPost_ret (cI rfl _ _ w.heap.size false 0 0 0 0 0 0 0 0 rfl rfl (cR HRA.out 0 0 0 0 0 0 0 0)) rfl ⟨by rw[HZ.out];rfl,bV B3.out (za _) 0 0 0 0 0 0 0 0⟩
  |some ga=>
   cases rb with
   |none=>
    have HZ:Hid (jG (dQ s.data.toList)=jG none):=by show _=_;rw[HP.out]
    simp only[zt,zu];have RA:=AR3.out;have r0:=(RA.2 0 de).1;have r1:=(RA.2 1 de).1;have r2:=(RA.2 2 de).1;have r3:=(RA.2 3 de).1;have r4:=(RA.2 4 de).1;have r5:=(RA.2 5 de).1;have r6:=(RA.2 6 de).1;have r7:=(RA.2 7 de).1;have f0:=(RA.2 0 de).2;have f1:=(RA.2 1 de).2;have f2:=(RA.2 2 de).2;have f3:=(RA.2 3 de).2;have f4:=(RA.2 4 de).2;have f5:=(RA.2 5 de).2;have f6:=(RA.2 6 de).2;have f7:=(RA.2 7 de).2;have HRA:=bN RA;clear RA;go_wp2_with fail;refine bodyPost_ret (cI rfl _ _ w.heap.size false 0 0 0 0 0 0 0 0 rfl rfl (cR HRA.out 0 0 0 0 0 0 0 0)) rfl ⟨by rw[HZ.out];rfl,bV B3.out (za _) 0 0 0 0 0 0 0 0⟩
   |some gb=>
    obtain rfl:=HLA.out ga rfl
    obtain rfl:=HLB.out gb rfl
    simp only[zu]
    by_cases h7:la.length+lb.length<=7
    .have HZ:Hid (jG (dQ s.data.toList)=H #[.agg ((toI (iA la lb)).map (Value.int .i64)).toArray,G true]):=by
      show _=_;rw[HP.out];simp only;rw[if_pos h7];rfl
     have h7': ¬7<(la.length:Int)+(lb.length:Int):=om;have HFIN:Hid (yI (oU (toI la) (toI la).length) (toI lb) (toI lb).length=toI (iA la lb)):=by
      show _=_;rw[C7 (by rw[fR,fR];exact h7),S3]
     have HLL:Hid ((toI la).length=la.length/\(toI lb).length=lb.length):=⟨fR la,fR lb⟩;have hla7:la.length<=7:=om;have hlb7:lb.length<=7:=om;clear hla hlb HP HLA HLB hk2 hk3 hk4 h7;go_wp2_with fail
     go_loopw[13] (fun i wr=> ∃k:Nat,k<=la.length/\i=I J k/\dW wr (w.heap.size+1) (oU (toI la) k)/\dW wr w.heap.size [0,0,0,0,0,0,0,0]/\lD wr (w.heap.size+2) aoa (toI la)/\lD wr (w.heap.size+2) aob (toI lb)/\Below w.heap.size w wr) (fun i _=>la.length-(intOf i).toNat)
     case atStart=>exact ⟨0,zi _,rfl,AO3.out,AR3.out,HRA0.out,HRB0.out,B3.out⟩
     obtain ⟨i,hi,rfl,oa,ra,qa,qb,hbel⟩:=hrel;have HOW:=bN oa;have HRW:=bN ra;have HQA:Hid (lD wr (w.heap.size+2) aoa (toI la)):=qa;have HQB:Hid (lD wr (w.heap.size+2) aob (toI lb)):=qb;clear oa ra qa qb HRA0 HRB0 AO3 AR3 B3
     by_cases hlt:i<la.length
     .obtain ⟨g,rfl,hg1,hg2⟩:=HQA.out (by have:=HLL.out;omega)
      have hc:=hg2 i (by have:=HLL.out;omega);have ho:=(HOW.out.2 i om).1;have hof:=(HOW.out.2 i om).2;have HPS:Hid ((oU (toI la) i).set i ((toI la).getD i 0)=oU (toI la) (i+1)):=PY (by have:=HLL.out;omega) (by have:=HLL.out;omega);have hki:(i:Int)<(la.length:Int):=om;clear hg2;generalize (toI la).getD i 0=y at hc HPS;generalize (oU (toI la) i).getD i 0=y0 at ho;have hi8:(i:Int)<8:=om;go_wp2_with fail;go_roundw
      case rel=>
       refine ⟨i+1,om,gn,?_,HRW.out.other om _ _,HQA.out.other om _ _,HQB.out.other om _ _,?_⟩
       .have h:=HOW.out.set i om y
        rw[HPS.out]at h;exact h
       exact hbel.setCell (p:=⟨w.heap.size+1,i,none⟩) j2 _
      case measure=>exact j1
     have hki: ¬(i:Int)<(la.length:Int):=om
     obtain rfl:i=la.length:=om
     have HOW2:Hid (dW wr (w.heap.size+1) (yI (oU (toI la) (toI la).length) (toI lb) 0)):=by
      have h:=HOW.out;rw[<-HLL.out.1]at h;rw[C6];exact h
     have HB4:Hid (Below w.heap.size w wr):=hbel;have HPL:Hid ((oU (toI la) (toI la).length).length=8):=S4 (za _) (by have:=HLL.out;omega);clear HOW hlt hi hbel HQA;generalize oU (toI la) (toI la).length=zz at HOW2 HPL HFIN;go_wp2_with fail;clear hki
     go_loopw[14] (fun i wr'=> ∃k:Nat,k<=lb.length/\i=I J k/\dW wr' (w.heap.size+1) (yI zz (toI lb) k)/\dW wr' w.heap.size [0,0,0,0,0,0,0,0]/\lD wr' (w.heap.size+2) aob (toI lb)/\Below w.heap.size w wr') (fun i _=>lb.length-(intOf i).toNat)
     case atStart=>exact ⟨0,zi _,rfl,HOW2.out,HRW.out,HQB.out,HB4.out⟩
     obtain ⟨i,hi,rfl,oa,ra,qb,hbel⟩:=hrel;have HOW:=bN oa;have HRW:=bN ra;have HQB:Hid (lD wr (w.heap.size+2) aob (toI lb)):=qb;clear oa ra qb HOW2 HB4
     by_cases hlt:i<lb.length
     .obtain ⟨g,rfl,hg1,hg2⟩:=HQB.out (by have:=HLL.out;omega)
      have hc:=hg2 i (by have:=HLL.out;omega);obtain ⟨m,hm⟩: ∃m:Nat,8-lb.length+i=m:=⟨_,rfl⟩;have hm8:m<8:=om;have hmi:(8:Int)-(lb.length:Int)+(i:Int)=(m:Int):=om;have ho:=(HOW.out.2 m hm8).1;have hof:=(HOW.out.2 m hm8).2;have HPS:Hid ((yI zz (toI lb) i).set m ((toI lb).getD i 0)=yI zz (toI lb) (i+1)):=by
       show _=_;have h:=S1 (z:=zz) (b:=toI lb) (i:=i) HPL.out (by have:=HLL.out;omega) (by have:=HLL.out;omega);rw[HLL.out.2,hm]at h;exact h
      have HM:Hid (8-lb.length+i=m):=hm;have hki:(i:Int)<(lb.length:Int):=om;clear hg2 hm;generalize (toI lb).getD i 0=y at hc HPS;generalize (yI zz (toI lb) i).getD m 0=y0 at ho;have hm8i:(m:Int)<8:=om;go_wp2_with fail;go_roundw
      case rel=>
       refine ⟨i+1,om,gn,?_,HRW.out.other om _ _,HQB.out.other om _ _,?_⟩
       .have h:=HOW.out.set m hm8 y
        rw[HPS.out]at h;exact h
       exact hbel.setCell (p:=⟨w.heap.size+1,m,none⟩) j2 _
      case measure=>exact j1
     have hki: ¬(i:Int)<(lb.length:Int):=om
     obtain rfl:i=lb.length:=om
     have OA8:dW wr (w.heap.size+1) (toI (iA la lb)):=by
      have h:=HOW.out;rw[<-HLL.out.2,HFIN.out]at h;exact h
     obtain ⟨x0,x1,x2,x3,x4,x5,x6,x7,hx⟩:=DY OA8;rw[hx]at OA8 HZ;clear HOW HFIN hx;have o0:=(OA8.2 0 de).1;have o1:=(OA8.2 1 de).1;have o2:=(OA8.2 2 de).1;have o3:=(OA8.2 3 de).1;have o4:=(OA8.2 4 de).1;have o5:=(OA8.2 5 de).1;have o6:=(OA8.2 6 de).1;have o7:=(OA8.2 7 de).1;clear OA8;simp only[zh,zk,zl,zx]at o0 o1 o2 o3 o4 o5 o6 o7;have RA:=HRW.out;have r0:=(RA.2 0 de).1;have r1:=(RA.2 1 de).1;have r2:=(RA.2 2 de).1;have r3:=(RA.2 3 de).1;have r4:=(RA.2 4 de).1;have r5:=(RA.2 5 de).1;have r6:=(RA.2 6 de).1;have r7:=(RA.2 7 de).1;have f0:=(RA.2 0 de).2;have f1:=(RA.2 1 de).2;have f2:=(RA.2 2 de).2;have f3:=(RA.2 3 de).2;have f4:=(RA.2 4 de).2;have f5:=(RA.2 5 de).2;have f6:=(RA.2 6 de).2;have f7:=(RA.2 7 de).2;have HRA:=bN RA;clear RA;go_wp2_with fail;refine bodyPost_ret (cI rfl _ _ w.heap.size true x0 x1 x2 x3 x4 x5 x6 x7 rfl rfl (cR HRA.out x0 x1 x2 x3 x4 x5 x6 x7)) rfl ⟨by rw[HZ.out];rfl,bV hbel (za _) x0 x1 x2 x3 x4 x5 x6 x7⟩
    have HZ:Hid (jG (dQ s.data.toList)=jG none):=by
     show _=_;rw[HP.out];simp only;rw[if_neg h7]
    have h7':7<(la.length:Int)+(lb.length:Int):=om;clear h7;have RA:=AR3.out;have r0:=(RA.2 0 de).1;have r1:=(RA.2 1 de).1;have r2:=(RA.2 2 de).1;have r3:=(RA.2 3 de).1;have r4:=(RA.2 4 de).1;have r5:=(RA.2 5 de).1;have r6:=(RA.2 6 de).1;have r7:=(RA.2 7 de).1;have f0:=(RA.2 0 de).2;have f1:=(RA.2 1 de).2;have f2:=(RA.2 2 de).2;have f3:=(RA.2 3 de).2;have f4:=(RA.2 4 de).2;have f5:=(RA.2 5 de).2;have f6:=(RA.2 6 de).2;have f7:=(RA.2 7 de).2;have HRA:=bN RA;clear RA;go_wp2_with fail;refine bodyPost_ret (cI rfl _ _ w.heap.size false 0 0 0 0 0 0 0 0 rfl rfl (cR HRA.out 0 0 0 0 0 0 0 0)) rfl ⟨by rw[HZ.out];rfl,bV B3.out (za _) 0 0 0 0 0 0 0 0⟩
theorem JC: ∀l:List UInt8,Lib.index l [58,58]=GG (iD l)
 |[]=>rfl
 |c::r=>by
  rw[Lib.index,iD,JC r]
  by_cases h:c=58/\r.head? =some 58
  .rw[if_pos h,if_pos]
   .rfl
   obtain ⟨rfl,h2⟩:=h
   cases r with
   |nil=>simp at h2
   |cons d q=>simp at h2;subst h2;simp[zo]
  rw[if_neg h,if_neg]
  .cases hr:iD r with
   |none=>simp[GG]
   |some k=>
    have:((k:Int)== -1)=false:=by simp
    simp[GG,this]
  intro h2;apply h
  cases r with
  |nil=>simp[zo]at h2
  |cons d q=>
   simp[zo]at h2;exact ⟨h2.1.symm,by rw[h2.2];rfl⟩
theorem Dh(l:List UInt8):Lib.cut l [58,58]=match cH l with
  |none=>(l,[],false)
  |some (a,b)=>(a,b,true):=by
 unfold Lib.cut;rw[JC,AV]
 cases hd:iD l with
 |none=>rfl
 |some k=>
  have h:(0:Int)<=GG (some k):=by simp[GG]
  rw[if_pos h];simp[GG]
theorem PZ(many:Int)(cut:Bool)(w:World):Calls prog 279 #[I J many,G cut] w fun e w'=>e=Y (G (if cut then decide (many<8)else (many==8)))/\w=w':=by
 cases cut with
 |true=>
  go_enter func279,ntmps279;go_wp2;go_ret;exact ⟨rfl,rfl⟩
 |false=>
  go_enter func279,ntmps279;go_wp2;go_ret;exact ⟨rfl,rfl⟩
def LZ(w w':World)(r:Option (List Nat))(e:Ending):Prop:=match r with
 |none=>e=Y (H #[.slice none 0 0,G false])
 |some gs=> ∃v:Value,e=Y (H #[v,G true])/\w'.ownsRow w.heap.size 3 1 v gs.length (aL (toI gs))
theorem rY(s:ByteArray)(w:World)(hs:s.size<=1048576):Calls prog 278 #[L s] w fun e w'=>LZ w w' (cX false s.data.toList) e/\Below w.heap.size w w':=by
 have HO:(w.alloc (Z #[] 3)).ownsRow w.heap.size 3 1 (.slice (some ⟨w.heap.size,0,none⟩) 0 0) 0 []:=World.ownsRow_lit w #[] 0 (za _) de rfl
 by_cases h0:s.size=0
 .have hem:=aV h0
  have HZ:Hid (cX false s.data.toList=some []):=PX h0;clear h0;go_enter func278,ntmps278;go_wp2_with fail;go_ret2;rw[HZ.out];exact ⟨⟨_,rfl,HO⟩,(zn _ _).alloc (za _) _⟩
 have hp:0<s.size:=om;have hem:=aX hp;have HF:Hid (cX false s.data.toList=grp false ((aA s 58).map toL)):=zK hp;have hpos:0<(aA s 58).length:=by simp[aA]
 have hlen:(aA s 58).length<=1048577:=by
  have:=(dL s 58 s.size).2
  simp[aA];omega
 have HSZ:Hid (∀x∈aA s 58,x.size<=1048576):=rX s hs;have CF:Hid (∀W,Calls prog 135 #[L s,.int .u8 58] W fun e w'=> ∃v,e=Y v/\w'.ownsRow W.heap.size 9 1 v (aA s 58).length (aM (aA s 58))/\Below W.heap.size W w'):=fun W=>uD s 58 W hs
 generalize aA s 58=fs at HF hpos hlen HSZ CF;clear h0;go_enter func278,ntmps278;go_wp2_with fail;refine (CF.out _).mono ?_;rintro e wa ⟨va,rfl,oa,ba⟩;have OA:=aH HO ba
 rcases aQ oa with ⟨h,_⟩|⟨_,g,cap,rfl⟩
 .omega
 have hg:=(oa.lt g rfl).1;have hg2:=(oa.lt g rfl).2;have B0:Below w.heap.size w wa:=((zn _ w).alloc (za _) _).trans (ba.mono j2);have HC0:Hid (∀j,j<fs.length->wa.cell? ⟨g,j,none⟩=some (L (fs.getD j ze))):=fun j hj=>bY oa j hj
 clear ba HO oa CF;go_wp2_with fail
 go_loopw[4,16] (fun v i wr=> ∃(k:Nat) (acc:List Nat),k<=fs.length/\i=I J k/\acc.length<=k/\grp false (fs.map toL)=(grp false ((fs.drop k).map toL)).map (acc++ ·)/\wr.ownsRow w.heap.size 3 1 v acc.length (aL (toI acc))/\(∀j,j<fs.length->wr.cell? ⟨g,j,none⟩=some (L (fs.getD j ze)))/\some g≠v.ownBlock/\g<wr.heap.size/\Below w.heap.size w wr)
  (fun _ i _=>fs.length-(intOf i).toNat)
 case atStart=>
  refine ⟨0,[],zi _,rfl,by simp,by simp,OA,HC0.out,?_,hg2,B0⟩;simp[Value.ownBlock];simp at hg;omega
 obtain ⟨k,acc,hk,rfl,hal,hr,ow,hcell,hne,hgl,hbel⟩:=hrel;have HR:Hid (grp false (fs.map toL)=(grp false ((fs.drop k).map toL)).map (acc++ ·)):=hr;have HC2:Hid (∀j,j<fs.length->wr.cell? ⟨g,j,none⟩=some (L (fs.getD j ze))):=hcell;have hsz:=hbel.size;clear hr OA B0 HC0
 by_cases hlt:k<fs.length
 .have hc:=hcell k hlt
  have HS:Hid (_=_):=PW false fs k hlt;have CN:Hid (∀W,CS 211 #[L (fs.getD k ze),I J 16,I J 4] W (eN (cU 16 4 (toL (fs.getD k ze))))):=fun W=>mW _ 16 4 W om om
  clear hcell;generalize fs.getD k ze=y at hc HS CN;have HN0:Hid ((if false=true/\k+1=fs.length then p4 (toL y)else none)=none):=by
   show _=_;rw[if_neg j2]
  have hki:(k:Int)<(fs.length:Int):=om
  cases hv:cU 16 4 (toL y)with
  |none=>
   have hg16:g16 (toL y)=none:=by
    unfold g16;split
    .rfl
    exact hv
   rw[hv]at CN;have HZ:Hid (cX false s.data.toList=none):=by
    show _=_;rw[HF.out,HR.out,HS.out,HN0.out,hg16];rfl
   clear hv hg16;go_wp2_with fail;refine (CN.out _).mono ?_;rintro e w' ⟨rfl,rfl⟩;simp only[eN];go_wp2_with fail;go_ret2;rw[HZ.out];exact ⟨rfl,hbel⟩
  |some v=>
   have hvl:=DX hv;rw[hv]at CN;obtain ⟨x,hx⟩: ∃x:Int,(v:Int)=x:=⟨_,rfl⟩;have HX:Hid ((v:Int)=x):=hx
   by_cases he:y.size=0
   .have HZ:Hid (cX false s.data.toList=none):=by
     show _=_;rw[HF.out,HR.out,HS.out,HN0.out,AW he];rfl
    have hem2:=aV he;clear he hv hvl hx;go_wp2_with fail;refine (CN.out _).mono ?_;rintro e w' ⟨rfl,rfl⟩;simp only[eN];rw[HX.out];go_wp2_with fail;go_ret2;rw[HZ.out];exact ⟨rfl,hbel⟩
   have hpy:0<y.size:=om;have hem2:=aX hpy;have HG:Hid (grp false (fs.map toL)=(grp false ((fs.drop (k+1)).map toL)).map ((acc++[v])++ ·)):=by
    show _=_;rw[HR.out,HS.out,HN0.out,AX hpy,hv];simp only
    cases grp false ((fs.drop (k+1)).map toL)<;>simp
   clear he hv hvl hx;go_wp2_with fail;refine (CN.out _).mono ?_;rintro e w' ⟨rfl,rfl⟩;simp only[eN];rw[HX.out];go_wp2_with (at_builtin;refine eB _ rfl _ _ 95 rfl w.heap.size 3 (I J 0) 8 underlying95 infoI5 rfl _ _ _ rfl ow #[I J x] 1 rfl rfl (by intro u hu;simp at hu;subst hu;rfl) om (by unfold maxLen;omega) hsz ?_);intro v' w1 ow' gr hat;have R:w1.ownsRow w.heap.size 3 1 v' (acc++[v]).length (aL (toI (acc++[v]))):=by
    rw[wJ,HX.out,kU,zf];exact ow'
   have B3:Below w.heap.size w w1:=hbel.grown gr hsz (fun k hk=>(ow.lt k hk).1);have hgw:w1.heap[g]? =wr.heap[g]? :=gr.block g hgl hne;have C1:Hid (∀j,j<fs.length->w1.cell? ⟨g,j,none⟩=some (L (fs.getD j ze))):=fun j hj=>
    (World.cell?_of_block (w:=wr) (a:=⟨g,j,none⟩) hgw).trans (HC2.out j hj)
   have hne1:some g≠v'.ownBlock:=by
    rcases hat with h|h
    .rw[h];exact hne
    rw[h];intro h2;cases h2;omega
   have hgl1:g<w1.heap.size:=Nat.lt_of_lt_of_le hgl gr.size;clear ow ow' gr hat hbel hgw HC2 hc;go_wp2_with fail;go_roundw
   case rel=>exact ⟨k+1,acc++[v],om,gn,by rw[zf];simp;omega,HG.out,R,C1.out,hne1,hgl1,B3⟩
   case measure=>exact j1
 have HZ:Hid (cX false s.data.toList=some acc):=by
  show _=_;rw[HF.out,HR.out,XL false fs k hlt];simp
 have hki: ¬(k:Int)<(fs.length:Int):=om;clear hcell HC2;go_wp2_with fail;go_ret2;rw[HZ.out];exact ⟨⟨_,rfl,ow⟩,hbel⟩
theorem T0{a b:Nat}(ha:a<256)(hb:b<256):(bQ (a*256+b)).length<=(bP a).length+1+(bP b).length:=by
 have h1:1<=(bP b).length:=by unfold bP;split;simp;split<;>simp
 by_cases c1:a<10
 .have h2:1<=(bP a).length:=by unfold bP;rw[if_pos c1];simp
  have h3:(bQ (a*256+b)).length<=3:=by
   unfold bQ;split
   .simp
   split
   .simp
   rw[if_pos om];simp
  omega
 have h2:2<=(bP a).length:=by unfold bP;rw[if_neg c1];split<;>simp
 have h3:=(nC (a*256+b)).2;omega
theorem T3{n:Nat}(h:n<4294967296):(nD n).length<=(hF n).length:=by
 have e1:n/65536=(n/16777216)*256+n/65536%256:=om;have e2:n%65536=(n/256%256)*256+n%256:=om;have h1:=T0 (a:=n/16777216) (b:=n/65536%256) om om;have h2:=T0 (a:=n/256%256) (b:=n%256) om om;rw[<-e1]at h1;rw[<-e2]at h2;unfold nD hF;simp only[jl,zf,List.length_cons];omega
theorem UM(s:ByteArray): ∃b:Nat,b<=s.size/\Lib.lastIndexByte s 58+1=(b:Int)/\rP (s.data.toList.take b)/\ ∀c∈s.data.toList.drop b,c≠58:=by
 rcases Lib.lastIndexByte_spec s 58 with ⟨h1,h2⟩|⟨i,h0,h1,h2,h3⟩
 .refine ⟨0,zi _,by rw[h1];rfl,.inl j2,?_⟩
  intro c hc e;rw[List.drop_zero]at hc;obtain ⟨j,hj,rfl⟩:=zr hc;have hj':j<s.size:=by simpa using hj
  apply h2 j hj';rw[getElem!_pos s.data j hj']
  have:s.data[j]=58:=by simpa using e
  rw[this];rfl
 refine ⟨i+1,h0,by rw[h1];simp,.inr ⟨s.data.toList.take i,?_⟩,?_⟩
 .rw[eI s i h0]
  congr 2
  apply lN;rw[getElem!_pos s.data i h0]at h2;show s.data[i].toNat=58;omega
 intro c hc e;obtain ⟨j,hj,rfl⟩:=zr hc;rw[zy]at hj;have hj':i+1+j<s.size:=by simp at hj;omega
 apply h3 (i+1+j) om hj';rw[getElem!_pos s.data _ hj']
 have:s.data[i+1+j]=58:=by simpa using e
 rw[this];rfl
theorem D0(s:ByteArray)(b:Nat)(hb:b<=s.size)(W:World):(Instr.slice 9 (L s) none (some (I J (b:Int))) none).run prog W=.ok (L (s.extract 0 b)) W:=by
 simp[Instr.slice,run_underlying underlying9,Instr.sliceBounds,run_sliceBound,go_sem,hb]
theorem Di(s:ByteArray)(w:World)(hs:s.size<=1048576)(hT:Pow w)(hD:bK w):Calls prog 277 #[L s] w fun e w'=> ∃T:ByteArray,e=Y (L T)/\rO T.data.toList=dQ s.data.toList/\T.size<=1048576/\Below w.heap.size w w':=by
 obtain ⟨b,hb,hlb,hpre,htl⟩:=UM s;have CL:Hid (∀W,CS 210 #[L s,.int .u8 58] W (I J (Lib.lastIndexByte s 58))):=fun W=>(strings_LastIndexByte s 58 om W).mono fun e w' h=>⟨h.1,h.2.symm⟩
 have et:(s.extract b s.size).data.toList=s.data.toList.drop b:=by rw[aZ,cS s s.size (za _)]
 have ep:(s.extract 0 b).data.toList=s.data.toList.take b:=by rw[aZ];simp
 have CP:Hid (∀W,Pow W->CB 286 #[L (s.extract b s.size)] W (eN (p4 (s.data.toList.drop b)))):=fun W h=>by
  rw[<-et];exact LV _ W (by rw[zc];omega) h
 have HT:Hid (Pow w):=hT;have HD:Hid (bK w):=hD;have hcat:s.data.toList.take b++s.data.toList.drop b=s.data.toList:=List.take_append_drop b _;clear hT hD;have hbi:(b:Int)<=(s.size:Int):=om;have hl0:Lib.lastIndexByte s 58=(b:Int)-1:=om;rw[hl0]at CL;clear hlb hl0
 cases hp:p4 (s.data.toList.drop b)with
 |none=>
  have HZ:Hid (rO s.data.toList=dQ s.data.toList):=by
   have h:=TZ hpre htl hp;rw[hcat]at h;exact h
  rw[hp]at CP;clear hp hpre htl et ep hcat;go_enter func277,ntmps277;go_wp2_with fail;refine (CL.out _).mono ?_;rintro e w' ⟨rfl,rfl⟩;go_wp2_with fail;refine (CP.out _ HT.out).mono ?_;rintro e w1 ⟨rfl,b1⟩;simp only[eN];go_wp2_with fail;go_ret;exact ⟨s,rfl,HZ.out,hs,b1⟩
 |some n=>
  have hn4:=(nX hp).1;have HTL:Hid (s.data.toList.drop b=hF n):=(nX hp).2;have HZ:Hid (rO (s.data.toList.take b++nD n)=dQ s.data.toList):=by
   have h:=ZO hpre htl hp;rw[hcat]at h;exact h
  rw[hp]at CP;clear hp hpre htl et hcat;obtain ⟨x,hx⟩: ∃x:Int,(n:Int)=x:=⟨_,rfl⟩;have HX:Hid ((n:Int)=x):=hx;have hx0:0<=x:=om;have hx1:x<4294967296:=om;have b2:bits .and .i64 x 65535=x%65536:=sM 16 65535 rfl _ om om de;clear hx;go_enter func277,ntmps277;go_wp2_with fail;refine (CL.out _).mono ?_;rintro e w' ⟨rfl,rfl⟩;go_wp2_with fail;refine (CP.out _ HT.out).mono ?_;rintro e w1 ⟨rfl,b1⟩;simp only[eN];rw[HX.out];have CG:Hid (Calls prog 195 #[.slice (some ⟨w1.heap.size,0,none⟩) 2 2] ((w1.alloc (Z #[I J (x/65536),I J (x%65536)] 3)).drew) fun e w'=>e=Y (L ⟨(nD n).toArray⟩)/\Below w1.heap.size w1 w'):=by
   have hB:Below w1.heap.size w1 (w1.alloc (Z #[I J (x/65536),I J (x%65536)] 3)).drew:=((zn _ w1).alloc (za _) _).drew;have h:=gH w1.heap.size 0 2 [n/65536,n%65536] ((w1.alloc (Z #[I J (x/65536),I J (x%65536)] 3)).drew) j2 (by
    intro y hy;simp at hy;omega) (by
    intro j hj;have hj2:j=0∨j=1:=by simp at hj;omega
    show (w1.alloc (Z #[I J (x/65536),I J (x%65536)] 3)).cell? _=_;rw[World.cell?_alloc_at _ _ _ _ rfl]
    have:=HX.out
    rcases hj2 with rfl|rfl
    .simp
     omega
    simp;omega) (aT (aT HD.out b1) hB)
   refine h.mono fun e w' q=>⟨?_,hB.trans (q.2.mono hB.size)⟩
   rw[q.1];rfl
  have HB1:Hid (Below w.heap.size w w1):=b1;have hs2:(nD n).length<=100:=by
   have h1:=(nC (n/65536)).2;have h2:=(nC (n%65536)).2;simp[nD,jl];omega
  have HSZ:Hid ((s.extract 0 b).size+(⟨(nD n).toArray⟩:ByteArray).size<=1048576):=by
   show _<=_;have h1:=T3 hn4;have h2:=congrArg List.length HTL.out;rw[zy]at h2;have h3:s.data.toList.length=s.size:=by simp
   rw[zc,show (⟨(nD n).toArray⟩:ByteArray).size=(nD n).length from zv];omega
  have HEQ:Hid ((s.extract 0 b++⟨(nD n).toArray⟩).data.toList=s.data.toList.take b++nD n):=by
   show _=_;rw[ByteArray.data_append,Array.toList_append,ep]
  have z2:(⟨(nD n).toArray⟩:ByteArray).size<=100:=by rw[show (⟨(nD n).toArray⟩:ByteArray).size=(nD n).length from zv];exact hs2
  generalize (⟨(nD n).toArray⟩:ByteArray)=T2 at CG HSZ HEQ z2;have z1:(s.extract 0 b).size<=1048576:=by rw[zc];omega
  have hsx: ∀W:World,(Instr.slice 9 (L s) none (some (I J (b:Int))) none).run prog W=.ok (L (s.extract 0 b)) W:=fun W=>D0 s b hb W
  generalize s.extract 0 b=T1 at HSZ HEQ z1 hsx;clear b1 hs2 HTL hn4 ep;go_wp2_with fail
  go_region_with (go_at_call 195;with_reducible refine CG.out.mono ?_;rintro e w2 ⟨rfl,k2⟩)
  all_goals
   go_wp2_with fail;go_ret;refine ⟨T1++T2,rfl,by rw[HEQ.out];exact HZ.out,?_,HB1.out.trans (k2.mono HB1.out.size)⟩;rw[ByteArray.size_append];exact HSZ.out
