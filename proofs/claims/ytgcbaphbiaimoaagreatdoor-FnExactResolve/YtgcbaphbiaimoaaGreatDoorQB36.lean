/- UrlTo, HostMarks, UrlMarks, ExResWalk, OpenUrl. -/
import Derived.Test.YtgcbaphbiaimoaaGreatDoorQB33
import Derived.OpenShut
set_option maxHeartbeats 8000000
set_option maxRecDepth 100000
namespace Go.Proofs.YtgcbaphbiaimoaaGreatDoor
open Go.Value renaming int->I,string->Y,tuple->F,bool->E,agg->D
open Go.IntKind renaming i64->J
open Go.Ending renaming returned->Z
open Go.Obj renaming cells->G
open _root_.Go.Act renaming put->zi
open _root_.Go.RowKit.Below renaming refl->zc
open _root_.List renaming getElem_cons_succ->zf,getElem_cons_zero->ze,getElem_toArray->zg
open _root_.Nat renaming le_refl->za,zero_add->zh
open _root_.Go.World renaming size_alloc->zd
open _root_.Go.Proofs.Tryz
open _root_.Go.Proofs.YtgcbaphbiaimoaaGreatDoor.Tryz
section
open Go.RowKit
theorem Tryz.infoUrlL:(prog.info? 46).map (·.size)=some 16:=kr
theorem Tryz.infoHostL:(prog.info? 44).map (·.size)=some 11:=kr
theorem Tryz.infoArr:(prog.info? 24).map (·.size)=some 8:=kr
theorem Tryz.rowUrlL: ∃d,prog.underlying 46=some d/\d.isRow=true:=⟨_,underlying46,rfl⟩
theorem Tryz.rowHostL: ∃d,prog.underlying 44=some d/\d.isRow=true:=⟨_,underlying44,rfl⟩
theorem Tryz.rowArr: ∃d,prog.underlying 24=some d/\d.isRow=true:=⟨_,underlying24,rfl⟩
theorem pT{ops:Array Oper}{rest:List Oper}{o:Oper}{a:Act}{W:World}{Q:Exit->Act->World->Prop}{B:Nat}{vs:List Value}(hU:UAt W B vs)(off:Nat)(cs:List Value)(hs: ∀j v,cs[j]? =some v->vs[off+j]? =some v){ty:TypeId}(hr: ∃d,prog.underlying ty=some d/\d.isRow=true)(hi:(prog.info? ty).map (·.size)=some cs.length)(hgd:o.guard=none)(x:Operand)(ho:o.op=.load ty x)
  (hx:a.eval x=.pointer (some ⟨B,off,none⟩)) (h:wpList prog ops Q rest (a.put o.dst (D cs.toArray)) W):wpList prog ops Q (o::rest) a W:=by
 obtain ⟨d,hd1,hd2⟩:=hr;exact AY hgd _ x ho B off hx vs cs hU hs d hd1 hd2 hi h
theorem JY(k n:Int)(nm:ByteArray)(x0 x1 x2 x3 x4 x5 x6 x7:Int)(L:Int)(w:World)(h0:(nm.size:Int)<=L)(h1:L<=1048576):Calls prog 74 #[D (bD k nm n x0 x1 x2 x3 x4 x5 x6 x7).toArray,I J L] w fun e w'=>e=Z (I J (L-nm.size))/\Below w.heap.size w w':=by
 obtain ⟨O,hO⟩: ∃O,O=w.alloc (.cells (bD k nm n x0 x1 x2 x3 x4 x5 x6 x7).toArray 44):=⟨_,rfl⟩;have HU:Hid (PU w (bD k nm n x0 x1 x2 x3 x4 x5 x6 x7) O):=by
  rw[hO];exact PU.new w _ _
 have c1:=HU.out.1.1 1 _ rfl;go_enter func74,ntmps74
 go_upto_region 1 with fail
 rw[<-hO];clear hO;go_wp2_with fail;go_ret;exact ⟨rfl,HU.out.2⟩
theorem Y1(k n:Int)(nm:ByteArray)(x0 x1 x2 x3 x4 x5 x6 x7:Int)(L:Int)(w:World)(hm:nm.size<=maxLen)(h0:L<(nm.size:Int))(h1:0<=L):Calls prog 74 #[D (bD k nm n x0 x1 x2 x3 x4 x5 x6 x7).toArray,I J L] w fun e w'=>e=Z (I J (-1))/\Below w.heap.size w w':=by
 obtain ⟨O,hO⟩: ∃O,O=w.alloc (.cells (bD k nm n x0 x1 x2 x3 x4 x5 x6 x7).toArray 44):=⟨_,rfl⟩;have HU:Hid (PU w (bD k nm n x0 x1 x2 x3 x4 x5 x6 x7) O):=by
  rw[hO];exact PU.new w _ _
 have c1:=HU.out.1.1 1 _ rfl;have hm2:nm.size<=9223372036854775807:=hm;clear hm;go_enter func74,ntmps74
 go_upto_region 1 with fail
 rw[<-hO];clear hO;go_wp2_with fail;go_ret;exact ⟨rfl,HU.out.2⟩
theorem Y2(s k n p:Int)(nm a r:ByteArray)(q:Bool)(x0 x1 x2 x3 x4 x5 x6 x7:Int)(w:World)(h0:nm.size+a.size+r.size<=1048576):Calls prog 27 #[D (aA s k nm n x0 x1 x2 x3 x4 x5 x6 x7 p a q r).toArray,I J 1048576] w fun e w'=>e=Z (I J (1048576-nm.size-a.size-r.size))/\Below w.heap.size w w':=by
 have CH:Hid (∀W,CB 74 #[D (bD k nm n x0 x1 x2 x3 x4 x5 x6 x7).toArray,I J 1048576] W (I J (1048576-nm.size))):=fun W=>JY k n nm x0 x1 x2 x3 x4 x5 x6 x7 1048576 W om om
 obtain ⟨O,hO⟩: ∃O,O=w.alloc (.cells (aA s k nm n x0 x1 x2 x3 x4 x5 x6 x7 p a q r).toArray 46):=⟨_,rfl⟩;have HU:Hid (PU w (aA s k nm n x0 x1 x2 x3 x4 x5 x6 x7 p a q r) O):=by
  rw[hO];exact PU.new w _ _
 go_enter func27,ntmps27
 go_upto_region 1 with fail
 rw[<-hO];clear hO;go_wp2_with (refine pT HU.out.1 1 (bD k nm n x0 x1 x2 x3 x4 x5 x6 x7) (sD s k n p nm a r q x0 x1 x2 x3 x4 x5 x6 x7) rowHostL infoHostL rfl _ rfl rfl ?_);refine (CH.out _).mono ?_;rintro e w1 ⟨rfl,b1⟩;have HU1:Hid (PU w (aA s k nm n x0 x1 x2 x3 x4 x5 x6 x7 p a q r) w1):=HU.out.later b1;clear b1 HU CH;have c13:=HU1.out.1.1 13 _ rfl;have c15:=HU1.out.1.1 15 _ rfl;go_wp2_with fail;go_ret;exact ⟨by rfl,HU1.out.2⟩
theorem Hb(s k n p:Int)(nm a r:ByteArray)(q:Bool)(x0 x1 x2 x3 x4 x5 x6 x7:Int)(w:World)(hn:nm.size<=9223372036854775807)(ha:a.size<=9223372036854775807)(hr:r.size<=9223372036854775807)(h0:1048576<nm.size+a.size+r.size):Calls prog 27 #[D (aA s k nm n x0 x1 x2 x3 x4 x5 x6 x7 p a q r).toArray,I J 1048576] w fun e w'=>e=Z (I J (-1))/\Below w.heap.size w w':=by
 by_cases h1:1048576<nm.size
 .have CH:Hid (∀W,CB 74 #[D (bD k nm n x0 x1 x2 x3 x4 x5 x6 x7).toArray,I J 1048576] W (I J (-1))):=fun W=>Y1 k n nm x0 x1 x2 x3 x4 x5 x6 x7 1048576 W hn om om
  obtain ⟨O,hO⟩: ∃O,O=w.alloc (.cells (aA s k nm n x0 x1 x2 x3 x4 x5 x6 x7 p a q r).toArray 46):=⟨_,rfl⟩;have HU:Hid (PU w (aA s k nm n x0 x1 x2 x3 x4 x5 x6 x7 p a q r) O):=by
   rw[hO];exact PU.new w _ _
  go_enter func27,ntmps27
  go_upto_region 1 with fail
  rw[<-hO];clear hO;go_wp2_with (refine pT HU.out.1 1 (bD k nm n x0 x1 x2 x3 x4 x5 x6 x7) (sD s k n p nm a r q x0 x1 x2 x3 x4 x5 x6 x7) rowHostL infoHostL rfl _ rfl rfl ?_);refine (CH.out _).mono ?_;rintro e w1 ⟨rfl,b1⟩;have HU1:Hid (PU w (aA s k nm n x0 x1 x2 x3 x4 x5 x6 x7 p a q r) w1):=HU.out.later b1;clear b1 HU CH;have c13:=HU1.out.1.1 13 _ rfl;have c15:=HU1.out.1.1 15 _ rfl;go_wp2_with fail;go_ret;exact ⟨by rfl,HU1.out.2⟩
 have CH:Hid (∀W,CB 74 #[D (bD k nm n x0 x1 x2 x3 x4 x5 x6 x7).toArray,I J 1048576] W (I J (1048576-nm.size))):=fun W=>JY k n nm x0 x1 x2 x3 x4 x5 x6 x7 1048576 W om om
 by_cases h2:1048576<nm.size+a.size
 .obtain ⟨O,hO⟩: ∃O,O=w.alloc (.cells (aA s k nm n x0 x1 x2 x3 x4 x5 x6 x7 p a q r).toArray 46):=⟨_,rfl⟩
  have HU:Hid (PU w (aA s k nm n x0 x1 x2 x3 x4 x5 x6 x7 p a q r) O):=by
   rw[hO];exact PU.new w _ _
  go_enter func27,ntmps27
  go_upto_region 1 with fail
  rw[<-hO];clear hO;go_wp2_with (refine pT HU.out.1 1 (bD k nm n x0 x1 x2 x3 x4 x5 x6 x7) (sD s k n p nm a r q x0 x1 x2 x3 x4 x5 x6 x7) rowHostL infoHostL rfl _ rfl rfl ?_);refine (CH.out _).mono ?_;rintro e w1 ⟨rfl,b1⟩;have HU1:Hid (PU w (aA s k nm n x0 x1 x2 x3 x4 x5 x6 x7 p a q r) w1):=HU.out.later b1;clear b1 HU CH;have c13:=HU1.out.1.1 13 _ rfl;have c15:=HU1.out.1.1 15 _ rfl;go_wp2_with fail;go_ret;exact ⟨by rfl,HU1.out.2⟩
 obtain ⟨O,hO⟩: ∃O,O=w.alloc (.cells (aA s k nm n x0 x1 x2 x3 x4 x5 x6 x7 p a q r).toArray 46):=⟨_,rfl⟩;have HU:Hid (PU w (aA s k nm n x0 x1 x2 x3 x4 x5 x6 x7 p a q r) O):=by
  rw[hO];exact PU.new w _ _
 go_enter func27,ntmps27
 go_upto_region 1 with fail
 rw[<-hO];clear hO;go_wp2_with (refine pT HU.out.1 1 (bD k nm n x0 x1 x2 x3 x4 x5 x6 x7) (sD s k n p nm a r q x0 x1 x2 x3 x4 x5 x6 x7) rowHostL infoHostL rfl _ rfl rfl ?_);refine (CH.out _).mono ?_;rintro e w1 ⟨rfl,b1⟩;have HU1:Hid (PU w (aA s k nm n x0 x1 x2 x3 x4 x5 x6 x7 p a q r) w1):=HU.out.later b1;clear b1 HU CH;have c13:=HU1.out.1.1 13 _ rfl;have c15:=HU1.out.1.1 15 _ rfl;go_wp2_with fail;go_ret;exact ⟨by rfl,HU1.out.2⟩
theorem Nu(k n:Int)(nm:ByteArray)(x0 x1 x2 x3 x4 x5 x6 x7:Int): ∀j v,([I J x0,I J x1,I J x2,I J x3,I J x4,I J x5,I J x6,I J x7]:List Value)[j]? =some v->(bD k nm n x0 x1 x2 x3 x4 x5 x6 x7)[3+j]? =some v:=fun j v h=>by
 match j,h with
 |0,h=>exact h
 |1,h=>exact h
 |2,h=>exact h
 |3,h=>exact h
 |4,h=>exact h
 |5,h=>exact h
 |6,h=>exact h
 |7,h=>exact h
def P3(w:World)(r1 r2 r3:List Value)(W:World):Prop:=UAt W w.heap.size r1/\UAt W (w.heap.size+1) r2/\UAt W (w.heap.size+1+1) r3/\Below w.heap.size w W
theorem P3.later{w:World}{r1 r2 r3:List Value}{W W':World}(h:P3 w r1 r2 r3 W)(hb:Below W.heap.size W W'):P3 w r1 r2 r3 W':=⟨h.1.below hb,h.2.1.below hb,h.2.2.1.below hb,h.2.2.2.trans (hb.mono h.2.2.2.size)⟩
theorem P3.set{w:World}{r1 r2 r3:List Value}{W:World}(h:P3 w r1 r2 r3 W)(j:Nat)(hj:j<r3.length)(v:Value):P3 w r1 r2 (r3.set j v) (W.setCell ⟨w.heap.size+1+1,j,none⟩ v):=
 ⟨h.1.other om _ _,h.2.1.other om _ _,h.2.2.1.set j hj v,h.2.2.2.setCell (p:=⟨w.heap.size+1+1,j,none⟩) (by show _<=w.heap.size+1+1;omega) _⟩
theorem P3.moved{w:World}{r1 r2 r3 r:List Value}{W W':World}(h:P3 w r1 r2 r3 W)(hM:oM (w.heap.size+1+1) W W')(hU:UAt W' (w.heap.size+1+1) r):P3 w r1 r2 r W':=
 ⟨hM.1 _ _ om h.1,hM.1 _ _ om h.2.1,hU,hM.2 _ _ om h.2.2.2⟩
theorem P3.new(w:World)(v1 v2 v3:Array Value)(t1 t2 t3:TypeId):P3 w v1.toList v2.toList v3.toList (((w.alloc (.cells v1 t1)).alloc (.cells v2 t2)).alloc (.cells v3 t3)):=by
 have b1:Below w.heap.size w (w.alloc (.cells v1 t1)):=(zc _ w).alloc (za _) _;have h2:=UAt.new (w.alloc (.cells v1 t1)) v2 t2;have h3:=UAt.new ((w.alloc (.cells v1 t1)).alloc (.cells v2 t2)) v3 t3;rw[zd]at h2;rw[zd,zd]at h3;exact ⟨((UAt.new w v1 t1).below ((zc _ _).alloc (za _) _)).below ((zc _ _).alloc (za _) _),h2.below ((zc _ _).alloc (za _) _),h3,(b1.alloc j2 _).alloc (by simp;omega) _⟩
theorem RL{fn:Func}{i:Tmp}(h:fn.results= #[.cell i 26])(tmps:Array Value)(W:World)(B:Nat)(vs:List Value)(hl:vs.length=11)
  (hp:tmps[i]?.getD undef=.pointer (some ⟨B,0,none⟩)) (ha:UAt W B vs):(results fn tmps).run prog W=.ok (D vs.toArray) W:=by
 obtain ⟨d,hd1,hd2⟩:=rowHost;have hr:=run_loadVar_mid (P:=prog) W B 0 26 vs d (ha.range 0 vs (fun j v hv=>by rw[zh];exact hv)) hd1 hd2 (by rw[hl];exact infoHost);simp[results,h,hp,asAddr,hr]
theorem Kx(x0 x1 x2 x3 x4 x5 x6 x7:Int):([I J x0,I J x1,I J x2,I J x3,I J x4,I J x5,I J x6,I J x7]:List Value).toArray.all (·.oneCell')=true:=by simp[Value.oneCell']
theorem Ky(k n:Int)(nm:ByteArray)(x0 x1 x2 x3 x4 x5 x6 x7:Int)(w:World):Calls prog 75 #[D (bD k nm n x0 x1 x2 x3 x4 x5 x6 x7).toArray] w fun e w'=>e=Z (D (bD k nm n x0 x1 x2 x3 x4 x5 x6 x7).toArray)/\Below w.heap.size w w':=by
 have CA:Hid (∀W,CB 130 #[D #[I J x0,I J x1,I J x2,I J x3,I J x4,I J x5,I J x6,I J x7]] W (D #[I J x0,I J x1,I J x2,I J x3,I J x4,I J x5,I J x6,I J x7])):=fun W=>Ii x0 x1 x2 x3 x4 x5 x6 x7 W
 obtain ⟨O,hO⟩: ∃O,O=((w.alloc (.cells (bD k nm n x0 x1 x2 x3 x4 x5 x6 x7).toArray 44)).alloc (G #[I J 0,Y ⟨#[]⟩,I J 0,I J 0,I J 0,I J 0,I J 0,I J 0,I J 0,I J 0,I J 0] 26)).alloc (G #[I J 0,Y ⟨#[]⟩,I J 0,I J 0,I J 0,I J 0,I J 0,I J 0,I J 0,I J 0,I J 0] 26):=⟨_,rfl⟩;have H0:Hid (P3 w (bD k nm n x0 x1 x2 x3 x4 x5 x6 x7) (bD 0 ⟨#[]⟩ 0 0 0 0 0 0 0 0 0) (bD 0 ⟨#[]⟩ 0 0 0 0 0 0 0 0 0) O):=by
  rw[hO];exact P3.new w _ _ _ _ _ _
 go_enter func75,ntmps75
 go_upto_region 2 with fail
 rw[<-hO];clear hO;have c0:=H0.out.1.1 0 _ rfl;have c1:=H0.out.1.1 1 _ rfl;have c2:=H0.out.1.1 2 _ rfl;have d0:=H0.out.2.2.1.1 0 _ rfl;have d1:=H0.out.2.2.1.1 1 _ rfl;have d2:=H0.out.2.2.1.1 2 _ rfl;have f0:=H0.out.2.2.1.2.1 0;have f1:=H0.out.2.2.1.2.1 1;have f2:=H0.out.2.2.1.2.1 2;have H1:Hid (P3 w (bD k nm n x0 x1 x2 x3 x4 x5 x6 x7) (bD 0 ⟨#[]⟩ 0 0 0 0 0 0 0 0 0) (bD k nm n 0 0 0 0 0 0 0 0) (((O.setCell ⟨w.heap.size+1+1,0,none⟩ (I J k)).setCell ⟨w.heap.size+1+1,1,none⟩ (Y nm)).setCell ⟨w.heap.size+1+1,2,none⟩ (I J n))):=
  ((H0.out.set 0 (by simp[bD]) _).set 1 (by simp[bD]) _).set 2 (by simp[bD]) _
 clear H0
 go_upto_region 5 with fail
 generalize (((O.setCell ⟨w.heap.size+1+1,0,none⟩ (I J k)).setCell ⟨w.heap.size+1+1,1,none⟩ (Y nm)).setCell ⟨w.heap.size+1+1,2,none⟩ (I J n))=w1 at H1⊢;clear c0 c1 c2 d0 d1 d2 f0 f1 f2;go_wp2_with (refine pT H1.out.1 3 [I J x0,I J x1,I J x2,I J x3,I J x4,I J x5,I J x6,I J x7] (Nu k n nm x0 x1 x2 x3 x4 x5 x6 x7) rowArr infoArr rfl _ rfl rfl ?_);refine (CA.out _).mono ?_;rintro e w2 ⟨rfl,b2⟩;have H2:Hid (P3 w (bD k nm n x0 x1 x2 x3 x4 x5 x6 x7) (bD 0 ⟨#[]⟩ 0 0 0 0 0 0 0 0 0) (bD k nm n 0 0 0 0 0 0 0 0) w2):=H1.out.later b2;clear b2 H1 CA
 go_upto_region 6 with (refine AZ rfl _ _ _ rfl (w.heap.size+1+1) 3 #[I J x0,I J x1,I J x2,I J x3,I J x4,I J x5,I J x6,I J x7] rfl rfl _ H2.out.2.2.1 (by simp[bD]) infoArr (Kx x0 x1 x2 x3 x4 x5 x6 x7) ?_;intro w3 HU3 HM3)
 have H3:Hid (P3 w (bD k nm n x0 x1 x2 x3 x4 x5 x6 x7) (bD 0 ⟨#[]⟩ 0 0 0 0 0 0 0 0 0) (bD k nm n x0 x1 x2 x3 x4 x5 x6 x7) w3):=H2.out.moved HM3 HU3;clear HU3 HM3 H2;simp only[zi];go_wp2_with (first|(refine zD H3.out.2.2.1 0 (bD k nm n x0 x1 x2 x3 x4 x5 x6 x7) (fun j v hv=>by rw[zh];exact hv) rfl rfl _ rfl rfl ?_)|(refine jN H3.out.2.1 0 (by simp[bD]) (us:=bD k nm n x0 x1 x2 x3 x4 x5 x6 x7) rfl (gY ..) rfl _ _ rfl rfl rfl ?_;intro w4 HU4 HM4));have hB4:Below w.heap.size w w4:=HM4.2 _ _ om H3.out.2.2.2;clear H3 HM4;refine bodyPost_ret (v:=D (bD k nm n x0 x1 x2 x3 x4 x5 x6 x7).toArray) (RL results75 _ _ _ _ rfl rfl HU4) rfl ⟨rfl,hB4⟩
theorem Nv(s k n p:Int)(nm a r:ByteArray)(q:Bool)(x0 x1 x2 x3 x4 x5 x6 x7:Int)(w:World):Calls prog 28 #[D (aA s k nm n x0 x1 x2 x3 x4 x5 x6 x7 p a q r).toArray] w fun e w'=>e=Z (D (aA s k nm n x0 x1 x2 x3 x4 x5 x6 x7 p a q r).toArray)/\Below w.heap.size w w':=by
 have CA:Hid (∀W,CB 75 #[D (bD k nm n x0 x1 x2 x3 x4 x5 x6 x7).toArray] W (D (bD k nm n x0 x1 x2 x3 x4 x5 x6 x7).toArray)):=fun W=>Ky k n nm x0 x1 x2 x3 x4 x5 x6 x7 W
 obtain ⟨O,hO⟩: ∃O,O=((w.alloc (.cells (aA s k nm n x0 x1 x2 x3 x4 x5 x6 x7 p a q r).toArray 46)).alloc (G #[I J 0,I J 0,Y ⟨#[]⟩,I J 0,I J 0,I J 0,I J 0,I J 0,I J 0,I J 0,I J 0,I J 0,I J 0,Y ⟨#[]⟩,E false,Y ⟨#[]⟩] 28)).alloc (G #[I J 0,I J 0,Y ⟨#[]⟩,I J 0,I J 0,I J 0,I J 0,I J 0,I J 0,I J 0,I J 0,I J 0,I J 0,Y ⟨#[]⟩,E false,Y ⟨#[]⟩] 28):=⟨_,rfl⟩;have H0:Hid (P3 w (aA s k nm n x0 x1 x2 x3 x4 x5 x6 x7 p a q r) aM aM O):=by
  rw[hO];exact P3.new w _ _ _ _ _ _
 go_enter func28,ntmps28
 go_upto_region 2 with fail
 rw[<-hO];clear hO;have c0:=H0.out.1.1 0 _ rfl;have d0:=H0.out.2.2.1.1 0 _ rfl;have f0:=H0.out.2.2.1.2.1 0;have H1:Hid (P3 w (aA s k nm n x0 x1 x2 x3 x4 x5 x6 x7 p a q r) aM (aA s 0 ⟨#[]⟩ 0 0 0 0 0 0 0 0 0 0 ⟨#[]⟩ false ⟨#[]⟩) (O.setCell ⟨w.heap.size+1+1,0,none⟩ (I J s))):=H0.out.set 0 (by simp[aM,aA]) _;clear H0
 go_upto_region 3 with fail
 generalize (O.setCell ⟨w.heap.size+1+1,0,none⟩ (I J s))=w1 at H1⊢;clear c0 d0 f0;go_wp2_with (refine pT H1.out.1 1 (bD k nm n x0 x1 x2 x3 x4 x5 x6 x7) (sD s k n p nm a r q x0 x1 x2 x3 x4 x5 x6 x7) rowHostL infoHostL rfl _ rfl rfl ?_);refine (CA.out _).mono ?_;rintro e w2 ⟨rfl,b2⟩;have H2:Hid (P3 w (aA s k nm n x0 x1 x2 x3 x4 x5 x6 x7 p a q r) aM (aA s 0 ⟨#[]⟩ 0 0 0 0 0 0 0 0 0 0 ⟨#[]⟩ false ⟨#[]⟩) w2):=H1.out.later b2;clear b2 H1 CA
 go_upto_region 4 with (refine jN H2.out.2.2.1 1 (by simp[aA]) (us:=bD k nm n x0 x1 x2 x3 x4 x5 x6 x7) rfl (gY ..) rfl _ _ rfl rfl rfl ?_;intro w3 HU3 HM3)
 have H3:Hid (P3 w (aA s k nm n x0 x1 x2 x3 x4 x5 x6 x7 p a q r) aM (aA s k nm n x0 x1 x2 x3 x4 x5 x6 x7 0 ⟨#[]⟩ false ⟨#[]⟩) w3):=H2.out.moved HM3 HU3;clear HU3 HM3 H2;simp only[zi];have c12:=H3.out.1.1 12 _ rfl;have c13:=H3.out.1.1 13 _ rfl;have c14:=H3.out.1.1 14 _ rfl;have c15:=H3.out.1.1 15 _ rfl;have d12:=H3.out.2.2.1.1 12 _ rfl;have d13:=H3.out.2.2.1.1 13 _ rfl;have d14:=H3.out.2.2.1.1 14 _ rfl;have d15:=H3.out.2.2.1.1 15 _ rfl;have f12:=H3.out.2.2.1.2.1 12;have f13:=H3.out.2.2.1.2.1 13;have f14:=H3.out.2.2.1.2.1 14;have f15:=H3.out.2.2.1.2.1 15;have H4:Hid (P3 w (aA s k nm n x0 x1 x2 x3 x4 x5 x6 x7 p a q r) aM (aA s k nm n x0 x1 x2 x3 x4 x5 x6 x7 p a q r) ((((w3.setCell ⟨w.heap.size+1+1,12,none⟩ (I J p)).setCell ⟨w.heap.size+1+1,13,none⟩ (Y a)).setCell ⟨w.heap.size+1+1,14,none⟩ (E q)).setCell ⟨w.heap.size+1+1,15,none⟩ (Y r))):=
  (((H3.out.set 12 (by simp[aA]) _).set 13 (by simp[aA]) _).set 14 (by simp[aA]) _).set 15 (by simp[aA]) _
 clear H3
 go_upto_region 8 with fail
 generalize ((((w3.setCell ⟨w.heap.size+1+1,12,none⟩ (I J p)).setCell ⟨w.heap.size+1+1,13,none⟩ (Y a)).setCell ⟨w.heap.size+1+1,14,none⟩ (E q)).setCell ⟨w.heap.size+1+1,15,none⟩ (Y r))=w4 at H4⊢;clear c12 c13 c14 c15 d12 d13 d14 d15 f12 f13 f14 f15;go_wp2_with (first|(refine bA H4.out.2.2.1 rfl rfl _ rfl rfl ?_)|(refine aT H4.out.2.1 rfl (us:=aA s k nm n x0 x1 x2 x3 x4 x5 x6 x7 p a q r) rfl (aG ..) rfl _ _ rfl rfl rfl ?_;intro w5 HU5 HM5));have hB5:Below w.heap.size w w5:=HM5.2 _ _ om H4.out.2.2.2;clear H4 HM5;refine bodyPost_ret (v:=D (aA s k nm n x0 x1 x2 x3 x4 x5 x6 x7 p a q r).toArray) (bX results28 _ _ _ _ rfl rfl HU5) rfl ⟨rfl,hB5⟩
theorem B9(k n:Int)(s:ByteArray)(x0 x1 x2 x3 x4 x5 x6 x7:Int)(w:World):Calls prog 73 #[D #[I J k,Y s,I J n,I J x0,I J x1,I J x2,I J x3,I J x4,I J x5,I J x6,I J x7],D #[I J k,Y s,I J n,I J x0,I J x1,I J x2,I J x3,I J x4,I J x5,I J x6,I J x7]] w fun e w'=>e=Z (E true)/\Below w.heap.size w w':=by
 have CE:Hid (∀W,CB 129 #[D #[I J x0,I J x1,I J x2,I J x3,I J x4,I J x5,I J x6,I J x7],D #[I J x0,I J x1,I J x2,I J x3,I J x4,I J x5,I J x6,I J x7]] W (E true)):=fun W=>Ij x0 x1 x2 x3 x4 x5 x6 x7 W
 have HB:Hid (∀o p,Below w.heap.size w ((w.alloc o).alloc p)):=fun o p=>((zc _ w).alloc (za _) o).alloc j2 p
 go_enter func73,ntmps73;go_wp2_with fail;refine (CE.out _).mono ?_;rintro e w1 ⟨rfl,b1⟩;have B1:=(HB.out _ _).trans (b1.mono (by simp;omega));clear b1;go_wp2_with fail;go_ret;exact ⟨rfl,B1⟩
def P2(w:World)(r1 r2:List Value)(W:World):Prop:=UAt W w.heap.size r1/\UAt W (w.heap.size+1) r2/\Below w.heap.size w W
theorem P2.later{w:World}{r1 r2:List Value}{W W':World}(h:P2 w r1 r2 W)(hb:Below W.heap.size W W'):P2 w r1 r2 W':=⟨h.1.below hb,h.2.1.below hb,h.2.2.trans (hb.mono h.2.2.size)⟩
theorem Y3(s k n p:Int)(nm a r:ByteArray)(q:Bool)(x0 x1 x2 x3 x4 x5 x6 x7:Int)(w:World):Calls prog 26 #[D (aA s k nm n x0 x1 x2 x3 x4 x5 x6 x7 p a q r).toArray,D (aA s k nm n x0 x1 x2 x3 x4 x5 x6 x7 p a q r).toArray] w fun e w'=>e=Z (E true)/\Below w.heap.size w w':=by
 have CE:Hid (∀W,CB 73 #[D (bD k nm n x0 x1 x2 x3 x4 x5 x6 x7).toArray,D (bD k nm n x0 x1 x2 x3 x4 x5 x6 x7).toArray] W (E true)):=fun W=>B9 k n nm x0 x1 x2 x3 x4 x5 x6 x7 W
 obtain ⟨O,hO⟩: ∃O,O=(w.alloc (.cells (aA s k nm n x0 x1 x2 x3 x4 x5 x6 x7 p a q r).toArray 28)).alloc (.cells (aA s k nm n x0 x1 x2 x3 x4 x5 x6 x7 p a q r).toArray 28):=⟨_,rfl⟩;have HU:Hid (P2 w (aA s k nm n x0 x1 x2 x3 x4 x5 x6 x7 p a q r) (aA s k nm n x0 x1 x2 x3 x4 x5 x6 x7 p a q r) O):=by
  rw[hO];have h2:=UAt.new (w.alloc (.cells (aA s k nm n x0 x1 x2 x3 x4 x5 x6 x7 p a q r).toArray 28)) (aA s k nm n x0 x1 x2 x3 x4 x5 x6 x7 p a q r).toArray 28;rw[zd]at h2;exact ⟨(UAt.new w _ _).below ((zc _ _).alloc (za _) _),h2,((zc _ w).alloc (za _) _).alloc j2 _⟩
 have c0:=HU.out.1.1 0 _ rfl;have d0:=HU.out.2.1.1 0 _ rfl;go_enter func26,ntmps26
 go_upto_region 1 with fail
 rw[<-hO];clear hO;go_wp2_with (first|(refine zD HU.out.1 1 (bD k nm n x0 x1 x2 x3 x4 x5 x6 x7) (sD s k n p nm a r q x0 x1 x2 x3 x4 x5 x6 x7) rfl rfl _ rfl rfl ?_)|(refine zD HU.out.2.1 1 (bD k nm n x0 x1 x2 x3 x4 x5 x6 x7) (sD s k n p nm a r q x0 x1 x2 x3 x4 x5 x6 x7) rfl rfl _ rfl rfl ?_));refine (CE.out _).mono ?_;rintro e w1 ⟨rfl,b1⟩;have HU1:Hid (P2 w (aA s k nm n x0 x1 x2 x3 x4 x5 x6 x7 p a q r) (aA s k nm n x0 x1 x2 x3 x4 x5 x6 x7 p a q r) w1):=HU.out.later b1;clear b1 HU c0 d0 CE;have c12:=HU1.out.1.1 12 _ rfl;have d12:=HU1.out.2.1.1 12 _ rfl;have c13:=HU1.out.1.1 13 _ rfl;have d13:=HU1.out.2.1.1 13 _ rfl;have c14:=HU1.out.1.1 14 _ rfl;have d14:=HU1.out.2.1.1 14 _ rfl;have c15:=HU1.out.1.1 15 _ rfl;have d15:=HU1.out.2.1.1 15 _ rfl;go_wp2_with fail;go_ret;exact ⟨rfl,HU1.out.2.2⟩
theorem EM{vs:List Value}: ∀j v,vs[j]? =some v->vs[0+j]? =some v:=fun j v h=>by rw[zh];exact h
theorem Tryz.infoUrlR(s k n p:Int)(nm a r:ByteArray)(q:Bool)(x0 x1 x2 x3 x4 x5 x6 x7:Int):(prog.info? 46).map (·.size)=some (aA s k nm n x0 x1 x2 x3 x4 x5 x6 x7 p a q r).length:=infoUrlL
theorem Y4(ad:Nat->Addr)(s k n p:Int)(nm a r:ByteArray)(q:Bool)(x0 x1 x2 x3 x4 x5 x6 x7:Int)(S:ByteArray)(w:World)(hn:nm.size<=9223372036854775807)(ha:a.size<=9223372036854775807)(hr:r.size<=9223372036854775807)(hS:S.size<=9223372036854775807)(hT:qZ ad w):Calls prog 8 #[D (aA s k nm n x0 x1 x2 x3 x4 x5 x6 x7 p a q r).toArray,Y S] w fun e w'=>e=Z (E true)/\Below w.heap.size w w':=by
 by_cases hbig:1048576<S.size
 .clear hT
  obtain ⟨O,hO⟩: ∃O,O=w.alloc (.cells (aA s k nm n x0 x1 x2 x3 x4 x5 x6 x7 p a q r).toArray 46):=⟨_,rfl⟩;have HU:Hid (PU w (aA s k nm n x0 x1 x2 x3 x4 x5 x6 x7 p a q r) O):=by
   rw[hO];exact PU.new w _ _
  go_enter func8,ntmps8
  go_upto_region 1 with fail
  rw[<-hO];clear hO;go_wp2_with fail;go_ret;exact ⟨rfl,HU.out.2⟩
 by_cases hsz:1048576<nm.size+a.size+r.size
 .have CZ:Hid (∀W,CB 27 #[D (aA s k nm n x0 x1 x2 x3 x4 x5 x6 x7 p a q r).toArray,I J 1048576] W (I J (-1))):=fun W=>Hb s k n p nm a r q x0 x1 x2 x3 x4 x5 x6 x7 W hn ha hr hsz
  clear hT;obtain ⟨O,hO⟩: ∃O,O=w.alloc (.cells (aA s k nm n x0 x1 x2 x3 x4 x5 x6 x7 p a q r).toArray 46):=⟨_,rfl⟩;have HU:Hid (PU w (aA s k nm n x0 x1 x2 x3 x4 x5 x6 x7 p a q r) O):=by
   rw[hO];exact PU.new w _ _
  go_enter func8,ntmps8
  go_upto_region 1 with fail
  rw[<-hO];clear hO;go_wp2_with (refine pT HU.out.1 0 (aA s k nm n x0 x1 x2 x3 x4 x5 x6 x7 p a q r) EM rowUrlL (infoUrlR ..) rfl _ rfl rfl ?_);refine (CZ.out _).mono ?_;rintro e w1 ⟨rfl,b1⟩;go_wp2_with fail;go_ret;exact ⟨rfl,HU.out.2.trans (b1.mono HU.out.2.size)⟩
 have CZ:Hid (∀W,CB 27 #[D (aA s k nm n x0 x1 x2 x3 x4 x5 x6 x7 p a q r).toArray,I J 1048576] W (I J (1048576-nm.size-a.size-r.size))):=fun W=>Y2 s k n p nm a r q x0 x1 x2 x3 x4 x5 x6 x7 W om
 have CT:Hid (∀W,CB 28 #[D (aA s k nm n x0 x1 x2 x3 x4 x5 x6 x7 p a q r).toArray] W (D (aA s k nm n x0 x1 x2 x3 x4 x5 x6 x7 p a q r).toArray)):=fun W=>Nv s k n p nm a r q x0 x1 x2 x3 x4 x5 x6 x7 W
 have CS0:Hid (∀W,CB 23 #[D (aA s k nm n x0 x1 x2 x3 x4 x5 x6 x7 p a q r).toArray,Y S] W (F #[gV (fU ⟨s,⟨k,nm,n,[x0,x1,x2,x3,x4,x5,x6,x7]⟩,p,a,q,r⟩ S.data.toList).2,I J (fU ⟨s,⟨k,nm,n,[x0,x1,x2,x3,x4,x5,x6,x7]⟩,p,a,q,r⟩ S.data.toList).1])):=fun W=>DI s k n p nm a r q x0 x1 x2 x3 x4 x5 x6 x7 S W om om om om
 have CI0:Hid (∀W,Below w.heap.size w W->CB 22 #[D (aA s k nm n x0 x1 x2 x3 x4 x5 x6 x7 p a q r).toArray,Y S] W (F #[gV (fU ⟨s,⟨k,nm,n,[x0,x1,x2,x3,x4,x5,x6,x7]⟩,p,a,q,r⟩ S.data.toList).2,I J (fU ⟨s,⟨k,nm,n,[x0,x1,x2,x3,x4,x5,x6,x7]⟩,p,a,q,r⟩ S.data.toList).1])):=fun W hb=>tP ad s k n p nm a r q x0 x1 x2 x3 x4 x5 x6 x7 S W om om om om (hT.later hb)
 obtain ⟨s2,k2,n2,p2,nm2,a2,r2,q2,y0,y1,y2,y3,y4,y5,y6,y7,hu⟩:=iW _ (BH ⟨s,⟨k,nm,n,[x0,x1,x2,x3,x4,x5,x6,x7]⟩,p,a,q,r⟩ rfl S.data.toList);have CS:Hid (∀W,CB 23 #[D (aA s k nm n x0 x1 x2 x3 x4 x5 x6 x7 p a q r).toArray,Y S] W (F #[D (aA s2 k2 nm2 n2 y0 y1 y2 y3 y4 y5 y6 y7 p2 a2 q2 r2).toArray,I J (fU ⟨s,⟨k,nm,n,[x0,x1,x2,x3,x4,x5,x6,x7]⟩,p,a,q,r⟩ S.data.toList).1])):=fun W=>by
  have h:=CS0.out W;rw[hu,eT]at h;exact h
 have CI:Hid (∀W,Below w.heap.size w W->CB 22 #[D (aA s k nm n x0 x1 x2 x3 x4 x5 x6 x7 p a q r).toArray,Y S] W (F #[D (aA s2 k2 nm2 n2 y0 y1 y2 y3 y4 y5 y6 y7 p2 a2 q2 r2).toArray,I J (fU ⟨s,⟨k,nm,n,[x0,x1,x2,x3,x4,x5,x6,x7]⟩,p,a,q,r⟩ S.data.toList).1])):=fun W hb=>by
  have h:=CI0.out W hb;rw[hu,eT]at h;exact h
 have CE:Hid (∀W,CB 26 #[D (aA s2 k2 nm2 n2 y0 y1 y2 y3 y4 y5 y6 y7 p2 a2 q2 r2).toArray,D (aA s2 k2 nm2 n2 y0 y1 y2 y3 y4 y5 y6 y7 p2 a2 q2 r2).toArray] W (E true)):=fun W=>Y3 s2 k2 n2 p2 nm2 a2 r2 q2 y0 y1 y2 y3 y4 y5 y6 y7 W
 generalize (fU ⟨s,⟨k,nm,n,[x0,x1,x2,x3,x4,x5,x6,x7]⟩,p,a,q,r⟩ S.data.toList).1=c at CS CI CS0 CI0;clear hT hu CS0 CI0;obtain ⟨O,hO⟩: ∃O,O=w.alloc (.cells (aA s k nm n x0 x1 x2 x3 x4 x5 x6 x7 p a q r).toArray 46):=⟨_,rfl⟩;have HU:Hid (PU w (aA s k nm n x0 x1 x2 x3 x4 x5 x6 x7 p a q r) O):=by
  rw[hO];exact PU.new w _ _
 go_enter func8,ntmps8
 go_upto_region 1 with fail
 rw[<-hO];clear hO;go_wp2_with (refine pT HU.out.1 0 (aA s k nm n x0 x1 x2 x3 x4 x5 x6 x7 p a q r) EM rowUrlL (infoUrlR ..) rfl _ rfl rfl ?_);refine (CZ.out _).mono ?_;rintro e w1 ⟨rfl,b1⟩;have HU1:Hid (PU w (aA s k nm n x0 x1 x2 x3 x4 x5 x6 x7 p a q r) w1):=HU.out.later b1;clear b1 HU CZ
 go_upto_region 7 with fail
 clear hsz hbig;go_wp2_with (refine pT HU1.out.1 0 (aA s k nm n x0 x1 x2 x3 x4 x5 x6 x7 p a q r) EM rowUrlL (infoUrlR ..) rfl _ rfl rfl ?_);refine (CT.out _).mono ?_;rintro e w2 ⟨rfl,b2⟩;have HU2:Hid (PU w (aA s k nm n x0 x1 x2 x3 x4 x5 x6 x7 p a q r) w2):=HU1.out.later b2;clear b2 HU1;go_wp2_with fail;refine (CS.out _).mono ?_;rintro e w3 ⟨rfl,b3⟩;have HU3:Hid (PU w (aA s k nm n x0 x1 x2 x3 x4 x5 x6 x7 p a q r) (w3.alloc (G #[I J 0,I J 0,Y ⟨#[]⟩,I J 0,I J 0,I J 0,I J 0,I J 0,I J 0,I J 0,I J 0,I J 0,I J 0,Y ⟨#[]⟩,E false,Y ⟨#[]⟩] 28))):=(HU2.out.later b3).later ((zc _ _).alloc (za _) _);have hz3:w.heap.size<w3.heap.size:=(HU2.out.later b3).1.2.2;clear b3 HU2 CS
 go_upto_region 8 with (refine aT (UAt.new w3 _ _) rfl (us:=aA s2 k2 nm2 n2 y0 y1 y2 y3 y4 y5 y6 y7 p2 a2 q2 r2) rfl (aG ..) rfl _ _ rfl rfl rfl ?_;intro w4 HUh HMh)
 have HU4:Hid (PU w (aA s k nm n x0 x1 x2 x3 x4 x5 x6 x7 p a q r) w4):=HU3.out.moved hz3 HMh;have HV4:Hid (UAt w4 w3.heap.size (aA s2 k2 nm2 n2 y0 y1 y2 y3 y4 y5 y6 y7 p2 a2 q2 r2)):=HUh;clear HUh HMh HU3;generalize w3.heap.size=V at HV4 hz3⊢
 try simp only[zi]
 go_wp2_with (refine pT HU4.out.1 0 (aA s k nm n x0 x1 x2 x3 x4 x5 x6 x7 p a q r) EM rowUrlL (infoUrlR ..) rfl _ rfl rfl ?_);refine (CT.out _).mono ?_;rintro e w5 ⟨rfl,b5⟩;have HU5:Hid (PU w (aA s k nm n x0 x1 x2 x3 x4 x5 x6 x7 p a q r) w5):=HU4.out.later b5;have HV5:Hid (UAt w5 V (aA s2 k2 nm2 n2 y0 y1 y2 y3 y4 y5 y6 y7 p2 a2 q2 r2)):=HV4.out.below b5;clear b5 HU4 HV4 CT;go_wp2_with fail;refine (CI.out _ HU5.out.2).mono ?_;rintro e w6 ⟨rfl,b6⟩;have hU6:=HU5.out.later b6;have hV6:=HV5.out.below b6;have B6:Hid (Below w.heap.size w (w6.alloc (G #[I J 0,I J 0,Y ⟨#[]⟩,I J 0,I J 0,I J 0,I J 0,I J 0,I J 0,I J 0,I J 0,I J 0,I J 0,Y ⟨#[]⟩,E false,Y ⟨#[]⟩] 28))):=hU6.2.alloc hU6.2.size _;have HV6:Hid (UAt (w6.alloc (G #[I J 0,I J 0,Y ⟨#[]⟩,I J 0,I J 0,I J 0,I J 0,I J 0,I J 0,I J 0,I J 0,I J 0,I J 0,Y ⟨#[]⟩,E false,Y ⟨#[]⟩] 28)) V (aA s2 k2 nm2 n2 y0 y1 y2 y3 y4 y5 y6 y7 p2 a2 q2 r2)):=hV6.below ((zc _ _).alloc (za _) _);have hz6:w.heap.size<=w6.heap.size:=hU6.2.size;have hlt:V<w6.heap.size:=hV6.2.2;clear b6 hU6 hV6 HU5 HV5 CI
 go_upto_region 9 with (refine aT (UAt.new w6 _ _) rfl (us:=aA s2 k2 nm2 n2 y0 y1 y2 y3 y4 y5 y6 y7 p2 a2 q2 r2) rfl (aG ..) rfl _ _ rfl rfl rfl ?_;intro w7 HUh HMh)
 have B7:Hid (Below w.heap.size w w7):=HMh.2 _ _ hz6 B6.out;have HV7:Hid (UAt w7 V (aA s2 k2 nm2 n2 y0 y1 y2 y3 y4 y5 y6 y7 p2 a2 q2 r2)):=HMh.1 _ _ om HV6.out;have HN7:Hid (UAt w7 w6.heap.size (aA s2 k2 nm2 n2 y0 y1 y2 y3 y4 y5 y6 y7 p2 a2 q2 r2)):=HUh;clear HUh HMh B6 HV6 hz6;generalize w6.heap.size=V2 at HN7 hlt⊢
 try simp only[zi]
 go_wp2_with (first|(refine bA HN7.out rfl rfl _ rfl rfl ?_)|(refine bA HV7.out rfl rfl _ rfl rfl ?_));refine (CE.out _).mono ?_;rintro e w8 ⟨rfl,b8⟩;go_wp2_with fail;go_ret;exact ⟨rfl,B7.out.trans (b8.mono B7.out.size)⟩
end
section
open Go.RowKit Go.WideShapes Go.ChangeShapes
section
variable {H:Type} {enc:TypeId×Value->H} {W:World} {base:Nat} {sp:Nat->Bool} {held:Bool}
theorem JZ{m:Nat}{v:Value}{y:DataW H×List MemPlace}(h:DataW.trod enc prog W base sp held m 3 [v]=some y): ∃n,v=I J n:=by
 obtain ⟨n,h1,_⟩:=DataW.trod_int underlying3 h;exact ⟨n,by simpa using h1⟩
theorem Nw{m:Nat}{v:Value}{y:DataW H×List MemPlace}(h:DataW.trod enc prog W base sp held m 4 [v]=some y): ∃n,v=E n:=by
 obtain ⟨n,h1,_⟩:=DataW.trod_bool underlying4 h;exact ⟨n,by simpa using h1⟩
theorem C7{m:Nat}{v:Value}{y:DataW H×List MemPlace}(h:DataW.trod enc prog W base sp held m 9 [v]=some y): ∃n:ByteArray,v=Y n/\n.size<=maxLen:=by
 obtain ⟨n,h1,_,h2⟩:=DataW.trod_string underlying9 h;exact ⟨n,by simpa using h1,h2⟩
theorem kT{α:Type}{xs:List α}{n:Nat}(i:Nat)(h:xs.length=n)(hi:i<n): ∃y,xs[i]? =some y:=⟨_,List.getElem?_eq_getElem om⟩
theorem RM:prog.cellsOf 3=1:=kr
theorem Kz:prog.cellsOf 4=1:=kr
theorem N0:prog.cellsOf 9=1:=kr
theorem La:prog.cellsOf 24=8:=kr
theorem Lb:prog.cellsOf 44=11:=kr
theorem Lc:prog.cellsOf 46=16:=kr
theorem Hc{m:Nat}{v0 v1 v2 v3 v4 v5 v6 v7:Value}{y:DataW H×List MemPlace}(h:DataW.trod enc prog W base sp held m 24 [v0,v1,v2,v3,v4,v5,v6,v7]=some y): ∃x0 x1 x2 x3 x4 x5 x6 x7:Int,([v0,v1,v2,v3,v4,v5,v6,v7]:List Value)=[I J x0,I J x1,I J x2,I J x3,I J x4,I J x5,I J x6,I J x7]:=by
 obtain ⟨xs,n,_,_,_,hl,hx⟩:=DataW.trod_array underlying24 h;rw[RM]at hx;have key: ∀i,i<8-> ∀v,([v0,v1,v2,v3,v4,v5,v6,v7].drop (i*1)).take 1=[v]-> ∃z,v=I J z:=fun i hi v hv=>by
  obtain ⟨y,hy⟩:=kT i hl hi
  have:=hx i hi
  rw[hy,hv]at this;exact JZ this
 obtain ⟨x0,rfl⟩:=key 0 de _ rfl;obtain ⟨x1,rfl⟩:=key 1 de _ rfl;obtain ⟨x2,rfl⟩:=key 2 de _ rfl;obtain ⟨x3,rfl⟩:=key 3 de _ rfl;obtain ⟨x4,rfl⟩:=key 4 de _ rfl;obtain ⟨x5,rfl⟩:=key 5 de _ rfl;obtain ⟨x6,rfl⟩:=key 6 de _ rfl;obtain ⟨x7,rfl⟩:=key 7 de _ rfl;exact ⟨x0,x1,x2,x3,x4,x5,x6,x7,rfl⟩
theorem Y5{m:Nat}{v0 v1 v2 v3 v4 v5 v6 v7 v8 v9 v10:Value}{y:DataW H×List MemPlace}(h:DataW.trod enc prog W base sp held m 44 [v0,v1,v2,v3,v4,v5,v6,v7,v8,v9,v10]=some y):
  ∃(k n:Int) (nm:ByteArray) (x0 x1 x2 x3 x4 x5 x6 x7:Int),([v0,v1,v2,v3,v4,v5,v6,v7,v8,v9,v10]:List Value)=bD k nm n x0 x1 x2 x3 x4 x5 x6 x7/\nm.size<=maxLen:=by
 obtain ⟨xs,n,_,_,_,hl,hx⟩:=DataW.trod_struct underlying44 h;have hl4:xs.length=4:=hl;obtain ⟨y0,h0⟩:=kT 0 hl4 de;obtain ⟨y1,h1⟩:=kT 1 hl4 de;obtain ⟨y2,h2⟩:=kT 2 hl4 de;obtain ⟨y3,h3⟩:=kT 3 hl4 de;have g0:=hx 0 _ rfl;have g1:=hx 1 _ rfl;have g2:=hx 2 _ rfl;have g3:=hx 3 _ rfl;rw[h0]at g0;rw[h1]at g1;rw[h2]at g2;rw[h3]at g3;simp only[zg,ze,zf]at g0 g1 g2 g3;rw[RM]at g0 g2;rw[N0]at g1;rw[La]at g3;obtain ⟨k,rfl⟩:=JZ g0;obtain ⟨nm,rfl,hn⟩:=C7 g1;obtain ⟨z,rfl⟩:=JZ g2;obtain ⟨x0,x1,x2,x3,x4,x5,x6,x7,e⟩:=Hc g3
 cases e
 exact ⟨k,z,nm,x0,x1,x2,x3,x4,x5,x6,x7,rfl,hn⟩
theorem Hd{r0:Reach}{b0:Nat}{v:Value}{d:DataW H}{ps:List MemPlace}(hval:Value.okWide prog W r0 b0 46 v)(hd:DataW.Trod enc prog W base sp held 46 v d ps):
  ∃(s k n p:Int) (nm a r:ByteArray) (q:Bool) (x0 x1 x2 x3 x4 x5 x6 x7:Int),v=D (aA s k nm n x0 x1 x2 x3 x4 x5 x6 x7 p a q r).toArray/\nm.size<=maxLen/\a.size<=maxLen/\r.size<=maxLen:=by
 obtain ⟨cs,rfl,hsz⟩:=okWide_struct underlying46 hval;rw[Lc]at hsz;obtain ⟨fuel,hf⟩:=hd;obtain ⟨L⟩:=cs;have hf2:DataW.trod enc prog W base sp held fuel 46 L=some (d,ps):=hf;have hlen:L.length=16:=hsz
 match L,hlen,hf2 with
 |[v0,v1,v2,v3,v4,v5,v6,v7,v8,v9,v10,v11,v12,v13,v14,v15],_,hf3=>
  obtain ⟨xs,n,_,_,_,hl,hx⟩:=DataW.trod_struct underlying46 hf3;have hl4:xs.length=6:=hl;obtain ⟨y0,h0⟩:=kT 0 hl4 de;obtain ⟨y1,h1⟩:=kT 1 hl4 de;obtain ⟨y2,h2⟩:=kT 2 hl4 de;obtain ⟨y3,h3⟩:=kT 3 hl4 de;obtain ⟨y4,h4⟩:=kT 4 hl4 de;obtain ⟨y5,h5⟩:=kT 5 hl4 de;have g0:=hx 0 _ rfl;have g1:=hx 1 _ rfl;have g2:=hx 2 _ rfl;have g3:=hx 3 _ rfl;have g4:=hx 4 _ rfl;have g5:=hx 5 _ rfl;rw[h0]at g0;rw[h1]at g1;rw[h2]at g2;rw[h3]at g3;rw[h4]at g4;rw[h5]at g5;simp only[zg,ze,zf]at g0 g1 g2 g3 g4 g5;rw[RM]at g0 g2;rw[N0]at g3 g5;rw[Kz]at g4;rw[Lb]at g1;obtain ⟨s,rfl⟩:=JZ g0;obtain ⟨k,z,nm,x0,x1,x2,x3,x4,x5,x6,x7,e,hn⟩:=Y5 g1;obtain ⟨p,rfl⟩:=JZ g2;obtain ⟨a,rfl,ha⟩:=C7 g3;obtain ⟨q,rfl⟩:=Nw g4;obtain ⟨r,rfl,hr⟩:=C7 g5
  cases e
  exact ⟨s,k,z,p,nm,a,r,q,x0,x1,x2,x3,x4,x5,x6,x7,rfl,hn,ha,hr⟩
end
