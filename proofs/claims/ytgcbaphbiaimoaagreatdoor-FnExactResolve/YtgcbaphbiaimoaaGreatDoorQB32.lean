/- ResSpec, UrlImpl5, ResSpec2. -/
import Derived.Test.YtgcbaphbiaimoaaGreatDoorQB31
set_option maxHeartbeats 8000000
set_option maxRecDepth 100000
namespace Go.Proofs.YtgcbaphbiaimoaaGreatDoor
open Go.Value renaming int->I,string->L,tuple->H,bool->G,agg->F
open Go.IntKind renaming i64->J
open Go.Ending renaming returned->Y
open Go.Obj renaming cells->Z
open _root_.Go.Act renaming put->zr
open _root_.Go.AllReadyH renaming cons->zp,nil->zq
open _root_.Go.RowKit.Below renaming refl->zl
open _root_.ByteArray renaming data_append->zn,size_append->zm,size_extract->ze
open _root_.List renaming drop_zero->zo,getElem_cons_succ->zg,getElem_cons_zero->zf,getElem_toArray->zh,setIfInBounds_toArray->zc,set_cons_succ->zk,set_cons_zero->zj
open _root_.Nat renaming le_refl->zi,le_succ->za,le_trans->zd
open _root_.Go.Proofs.Tryz
open _root_.Go.Proofs.YtgcbaphbiaimoaaGreatDoor.Tryz
section
open Go.RowKit
set_option linter.unusedVariables false
set_option linter.unusedSimpArgs false
theorem zP(b:UV)(l:List UInt8):dV b l=⟨b.s,b.h,b.p,(dV b l).a,(dV b l).q,(dV b l).r⟩:=by
 cases l with
 |nil=>rfl
 |cons c r=>
  rw[nP];split
  .rfl
  rfl
theorem M6{b:UV}{t:ByteArray}(h:t.size=0):dV b t.data.toList=b:=by
 rw[List.eq_nil_of_length_eq_zero (show t.data.toList.length=0 by simpa using h)];rfl
theorem M7{b:UV}{t:ByteArray}(h0:0<t.size)(h:t[0].toNat=63):dV b t.data.toList=⟨b.s,b.h,b.p,b.a,true,plB 2 (t.extract 1 t.size)⟩:=by
 have e:=fO t 0 h0;rw[zo]at e;rw[e,nP,if_pos (UInt8.toNat_inj.1 (show t[0].toNat=(63:UInt8).toNat from h)),<-fV,rF]
theorem NL{b:UV}{t:ByteArray}(h0:0<t.size)(h:t[0].toNat≠63)(hs:slB t[0]=true):dV b t.data.toList=⟨b.s,b.h,b.p,gK t,kZ t,gF t⟩:=by
 have e:=fO t 0 h0;rw[zo]at e;rw[<-QM]
 conv=>lhs;rw[e]
 rw[nP,if_neg (fun h1=>h (by rw[h1];rfl)),if_pos hs,<-e]
theorem Gq{b:UV}{t:ByteArray}(h0:0<t.size)(h:t[0].toNat≠63)(hs:slB t[0]=false):dV b t.data.toList=⟨b.s,b.h,b.p,gK (upT b.a++t),kZ (upT b.a++t),gF (upT b.a++t)⟩:=by
 have e:=fO t 0 h0;rw[zo]at e;rw[<-QM];have e2:(upT b.a++t).data.toList=toL (upT b.a)++t.data.toList:=by unfold toL;simp[zn]
 rw[e2]
 conv=>lhs;rw[e]
 rw[nP,if_neg (fun h1=>h (by rw[h1];rfl)),if_neg (by rw[hs];decide),<-e]
theorem XA(s k n p:Int)(nm a r:ByteArray)(q:Bool)(x0 x1 x2 x3 x4 x5 x6 x7:Int)(t:ByteArray)(w:World)(ht:t.size<=2000):Calls prog 126 #[F #[I J s,I J k,L nm,I J n,I J x0,I J x1,I J x2,I J x3,I J x4,I J x5,I J x6,I J x7,I J p,L a,G q,L r],L t] w fun e w'=>e=Y (F (aA s k nm n x0 x1 x2 x3 x4 x5 x6 x7 p a true (plB 2 t)).toArray)/\Below w.heap.size w w':=by
 have CP:Hid (∀W,CB 41 #[L t,I J 2] W (L (plB 2 t))):=fun W=>mG t 2 W om
 generalize plB 2 t=PR at CP⊢;have hn:=PA.new w s k n p nm a r q x0 x1 x2 x3 x4 x5 x6 x7;obtain ⟨O,hO⟩: ∃O,O=(w.alloc (Z #[I J s,I J k,L nm,I J n,I J x0,I J x1,I J x2,I J x3,I J x4,I J x5,I J x6,I J x7,I J p,L a,G q,L r] 28)).alloc (Z #[I J 0,I J 0,L ⟨#[]⟩,I J 0,I J 0,I J 0,I J 0,I J 0,I J 0,I J 0,I J 0,I J 0,I J 0,L ⟨#[]⟩,G false,L ⟨#[]⟩] 28):=⟨_,rfl⟩;rw[<-hO]at hn;have H0:Hid (PA w (aA s k nm n x0 x1 x2 x3 x4 x5 x6 x7 p a q r) O):=hn;clear hn;go_enter func126,ntmps126
 go_upto_region 1 with fail
 rw[<-hO];clear hO;have c14:=H0.out.1.1 14 _ rfl;have f14:=H0.out.1.2.1 14;have H1:Hid (PA w (aA s k nm n x0 x1 x2 x3 x4 x5 x6 x7 p a true r) (O.setCell ⟨w.heap.size,14,none⟩ (G true))):=H0.out.set 14 (by simp[aA]) _;clear H0
 go_upto_region 2 with fail
 generalize (O.setCell ⟨w.heap.size,14,none⟩ (G true))=w1 at H1⊢;clear c14 f14;go_wp2_with fail;refine (CP.out _).mono ?_;rintro e w2 ⟨rfl,b2⟩;have h2:=H1.out.later b2;have c15:=h2.1.1 15 _ rfl;have f15:=h2.1.2.1 15;have H3:Hid (PA w (aA s k nm n x0 x1 x2 x3 x4 x5 x6 x7 p a true PR) (w2.setCell ⟨w.heap.size,15,none⟩ (L PR))):=h2.set 15 (by simp[aA]) _;clear b2 h2 H1 CP
 go_upto_region 3 with fail
 generalize (w2.setCell ⟨w.heap.size,15,none⟩ (L PR))=w3 at H3⊢;clear c15 f15;go_wp2_with (first|(refine bA H3.out.1 rfl rfl _ rfl rfl ?_)|(refine aT H3.out.2.1 rfl (us:=(aA s k nm n x0 x1 x2 x3 x4 x5 x6 x7 p a true PR)) rfl (aG ..) rfl _ _ rfl rfl rfl ?_;intro w9 HU9 HM9));refine bodyPost_ret (bX rfl _ _ (w.heap.size+1) _ rfl rfl HU9) rfl ⟨rfl,HM9.2 _ _ (za _) H3.out.2.2⟩
def PB(w:World)(row:List Value)(W:World):Prop:=UAt W w.heap.size row/\(∃us:List Value,us.length=16/\UAt W (w.heap.size+1) us)/\Below w.heap.size w W
theorem PA.any{w:World}{row:List Value}{W:World}(h:PA w row W):PB w row W:=⟨h.1,⟨_,rfl,h.2.1⟩,h.2.2⟩
theorem PB.later{w:World}{row:List Value}{W W':World}(h:PB w row W)(hb:Below W.heap.size W W'):PB w row W':=by
 obtain ⟨h1,⟨us,hl,h2⟩,h3⟩:=h;exact ⟨h1.below hb,⟨us,hl,h2.below hb⟩,h3.trans (hb.mono h3.size)⟩
theorem PB.stored{w:World}{row us:List Value}{W:World}(h:PB w row W)(hm:us.length=16):PB w row (W.setCells (w.heap.size+1) 0 us.toArray.toList)/\UAt (W.setCells (w.heap.size+1) 0 us.toArray.toList) (w.heap.size+1) us:=by
 obtain ⟨h1,⟨vs,hl,h2⟩,h3⟩:=h;have hs:=fZ h2 hl hm;exact ⟨⟨(bW _ _ _).1 _ _ om h1,⟨us,hm,hs⟩,(bW _ _ _).2 _ _ (za _) h3⟩,hs⟩
theorem PB.there{w:World}{row:List Value}{W:World}(h:PB w row W):W.there (w.heap.size+1) 0 16:=by
 obtain ⟨h1,⟨vs,hl,h2⟩,h3⟩:=h;exact h2.there 0 16 om
theorem wT(s k n p:Int)(nm a r:ByteArray)(q:Bool)(x0 x1 x2 x3 x4 x5 x6 x7:Int)(t:ByteArray)(w:World)(ha:a.size<=1048576)(ht:t.size<=2000):Calls prog 67 #[F #[I J s,I J k,L nm,I J n,I J x0,I J x1,I J x2,I J x3,I J x4,I J x5,I J x6,I J x7,I J p,L a,G q,L r],L t] w fun e w'=>e=Y (F (aA s k nm n x0 x1 x2 x3 x4 x5 x6 x7 p (dV ⟨s,⟨k,nm,n,[x0,x1,x2,x3,x4,x5,x6,x7]⟩,p,a,q,r⟩ t.data.toList).a (dV ⟨s,⟨k,nm,n,[x0,x1,x2,x3,x4,x5,x6,x7]⟩,p,a,q,r⟩ t.data.toList).q (dV ⟨s,⟨k,nm,n,[x0,x1,x2,x3,x4,x5,x6,x7]⟩,p,a,q,r⟩ t.data.toList).r).toArray)/\Below w.heap.size w w':=by
 by_cases h0:t.size=0
 .have hb:dV ⟨s,⟨k,nm,n,[x0,x1,x2,x3,x4,x5,x6,x7]⟩,p,a,q,r⟩ t.data.toList=⟨s,⟨k,nm,n,[x0,x1,x2,x3,x4,x5,x6,x7]⟩,p,a,q,r⟩:=M6 h0
  rw[hb];simp only;have hem:=aS h0;clear hb h0;have hn:=PA.new w s k n p nm a r q x0 x1 x2 x3 x4 x5 x6 x7;obtain ⟨O,hO⟩: ∃O,O=(w.alloc (Z #[I J s,I J k,L nm,I J n,I J x0,I J x1,I J x2,I J x3,I J x4,I J x5,I J x6,I J x7,I J p,L a,G q,L r] 28)).alloc (Z #[I J 0,I J 0,L ⟨#[]⟩,I J 0,I J 0,I J 0,I J 0,I J 0,I J 0,I J 0,I J 0,I J 0,I J 0,L ⟨#[]⟩,G false,L ⟨#[]⟩] 28):=⟨_,rfl⟩;rw[<-hO]at hn;have H0:Hid (PA w (aA s k nm n x0 x1 x2 x3 x4 x5 x6 x7 p a q r) O):=hn;clear hn;go_enter func67,ntmps67
  go_upto_region 1 with fail
  rw[<-hO];clear hO;go_wp2_with (first|(refine bA H0.out.1 rfl rfl _ rfl rfl ?_)|(refine aT H0.out.2.1 rfl (us:=(aA s k nm n x0 x1 x2 x3 x4 x5 x6 x7 p a q r)) rfl (aG ..) rfl _ _ rfl rfl rfl ?_;intro w9 HU9 HM9));refine bodyPost_ret (bX rfl _ _ (w.heap.size+1) _ rfl rfl HU9) rfl ⟨rfl,HM9.2 _ _ (za _) H0.out.2.2⟩
 have hem:=aW (show 0<t.size by omega);have h1:0<t.size:=om;obtain ⟨d,hd⟩: ∃d:Nat,t[0].toNat=d:=⟨_,rfl⟩;have hd1:(d:Int)<=255:=by have:=t[0].toNat_lt;omega
 by_cases h63:d=63
 .have hb:dV ⟨s,⟨k,nm,n,[x0,x1,x2,x3,x4,x5,x6,x7]⟩,p,a,q,r⟩ t.data.toList=⟨s,⟨k,nm,n,[x0,x1,x2,x3,x4,x5,x6,x7]⟩,p,a,true,plB 2 (t.extract 1 t.size)⟩:=M7 h1 (by rw[hd,h63])
  rw[hb];simp only;have CQ:Hid (∀W,CB 126 #[F (aA s k nm n x0 x1 x2 x3 x4 x5 x6 x7 p a q r).toArray,L (t.extract 1 t.size)] W (F (aA s k nm n x0 x1 x2 x3 x4 x5 x6 x7 p a true (plB 2 (t.extract 1 t.size))).toArray)):=fun W=>XA s k n p nm a r q x0 x1 x2 x3 x4 x5 x6 x7 _ W (by rw[ze];omega)
  generalize plB 2 (t.extract 1 t.size)=PR at CQ⊢;subst h63;clear hb h0;have hn:=PA.new w s k n p nm a r q x0 x1 x2 x3 x4 x5 x6 x7;obtain ⟨O,hO⟩: ∃O,O=(w.alloc (Z #[I J s,I J k,L nm,I J n,I J x0,I J x1,I J x2,I J x3,I J x4,I J x5,I J x6,I J x7,I J p,L a,G q,L r] 28)).alloc (Z #[I J 0,I J 0,L ⟨#[]⟩,I J 0,I J 0,I J 0,I J 0,I J 0,I J 0,I J 0,I J 0,I J 0,I J 0,L ⟨#[]⟩,G false,L ⟨#[]⟩] 28):=⟨_,rfl⟩;rw[<-hO]at hn;have H0:Hid (PA w (aA s k nm n x0 x1 x2 x3 x4 x5 x6 x7 p a q r) O):=hn;clear hn;go_enter func67,ntmps67
  go_upto_region 1 with fail
  rw[<-hO];clear hO
  go_upto_region 4 with fail
  refine wp_region_held_drew (S:=PB w (aA s k nm n x0 x1 x2 x3 x4 x5 x6 x7 p a q r)) kr H0.out.drew.any (fun h0=> ?_);clear H0;refine wpAnyH_take (i:=0) (v:=F (aA s k nm n x0 x1 x2 x3 x4 x5 x6 x7 p a q r).toArray) rfl kr kr kr (fun _ _ _ h=>h) (yieldsIf_load_mid (by rfl) _ _ rfl w.heap.size 0 rfl (aA s k nm n x0 x1 x2 x3 x4 x5 x6 x7 p a q r) _ (fun W hW=>hW.1.range 0 _ (fun j v hv=>by rw[Nat.zero_add];exact hv)) underlying28 rfl infoUrl) h0 ?_;simp only[zr,zh,zf,zg,zc,zj,zk];refine wpAnyH_take (i:=1) (v:= ?_) rfl kr kr kr (fun _ _ _ h=>h) (Or.inl ⟨by rfl,fun W hW=> ?_⟩) h0 ?_;rotate_left
  .clear hW
   go_simp
   try with_reducible rfl
  simp only[zr,zh,zf,zg,zc,zj,zk];refine wpAnyH_take (i:=2) (v:=L (t.extract 1 t.size)) rfl kr kr kr (fun _ _ _ h=>h) (Or.inl ⟨by rfl,fun W hW=> ?_⟩) h0 ?_
  .clear hW
   go_simp
   try with_reducible rfl
   try omega
  simp only[zr,zh,zf,zg,zc,zj,zk];refine wpAnyH_ready (rs:=[3]) kr j2 (zp rfl (fun K hK=> ?_) zq);go_simp;go_wp2_with (go_at_call 126;refine (CQ.out _).mono ?_;rintro e wq1 ⟨rfl,hb1⟩);refine hK.out _ _ (PB.later h0 hb1) (fun h1=> ?_);clear hK K h0;refine wpAnyH_ready (rs:=[4]) kr j2 (zp rfl (fun K hK=> ?_) zq);rw[if_pos (by rfl)];refine wp_store_mid _ _ _ rfl (w.heap.size+1) 0 (aA s k nm n x0 x1 x2 x3 x4 x5 x6 x7 p a true PR).toArray rfl rfl h1.there infoUrl (aG ..) ?_;have hst:=h1.stored (us:=aA s k nm n x0 x1 x2 x3 x4 x5 x6 x7 p a true PR) rfl;refine hK.out _ _ hst.1 (fun hZ=> ?_);clear hK K h1;generalize wq1.setCells (w.heap.size+1) 0 (aA s k nm n x0 x1 x2 x3 x4 x5 x6 x7 p a true PR).toArray.toList=w9 at hst hZ⊢;refine wpAnyH_done kr ?_ _;simp only[zr,zh,zf,zg,zc,zj,zk];go_wp2_with fail;refine bodyPost_ret (bX rfl _ _ (w.heap.size+1) _ rfl rfl hst.2) rfl ⟨rfl,hst.1.2.2⟩
 have q63:((d:Int)==63)=false:=beq_eq_false_iff_ne.2 om;have CS:Hid (∀W,CS 53 #[.int .u8 (d:Int)] W (G (slB t[0]))):=fun W=>kA _ d hd W
 cases hsl:slB t[0]with
 |true=>
  have hb:dV ⟨s,⟨k,nm,n,[x0,x1,x2,x3,x4,x5,x6,x7]⟩,p,a,q,r⟩ t.data.toList=⟨s,⟨k,nm,n,[x0,x1,x2,x3,x4,x5,x6,x7]⟩,p,gK t,kZ t,gF t⟩:=NL h1 (by rw[hd];exact h63) hsl;rw[hb];simp only;have CT:Hid (∀W,CB 59 #[F (aA s k nm n x0 x1 x2 x3 x4 x5 x6 x7 p a q r).toArray,L t] W (F (aA s k nm n x0 x1 x2 x3 x4 x5 x6 x7 p (gK t) (kZ t) (gF t)).toArray)):=fun W=>zE s k n p nm a r q x0 x1 x2 x3 x4 x5 x6 x7 t W om
  rw[hsl]at CS;generalize gK t=TA at CT⊢;generalize kZ t=TQ at CT⊢;generalize gF t=TR at CT⊢;clear hb h0 h63 hsl;have hn:=PA.new w s k n p nm a r q x0 x1 x2 x3 x4 x5 x6 x7;obtain ⟨O,hO⟩: ∃O,O=(w.alloc (Z #[I J s,I J k,L nm,I J n,I J x0,I J x1,I J x2,I J x3,I J x4,I J x5,I J x6,I J x7,I J p,L a,G q,L r] 28)).alloc (Z #[I J 0,I J 0,L ⟨#[]⟩,I J 0,I J 0,I J 0,I J 0,I J 0,I J 0,I J 0,I J 0,I J 0,I J 0,L ⟨#[]⟩,G false,L ⟨#[]⟩] 28):=⟨_,rfl⟩;rw[<-hO]at hn;have H0:Hid (PA w (aA s k nm n x0 x1 x2 x3 x4 x5 x6 x7 p a q r) O):=hn;clear hn;go_enter func67,ntmps67
  go_upto_region 1 with fail
  rw[<-hO];clear hO;go_wp2_with fail;refine (CS.out _).mono ?_;rintro e w' ⟨rfl,rfl⟩;clear CS hd hd1 q63;go_wp2_with (refine bA H0.out.1 rfl rfl _ rfl rfl ?_);refine (CT.out _).mono ?_;rintro e w1 ⟨rfl,b1⟩;have H1:Hid (PA w (aA s k nm n x0 x1 x2 x3 x4 x5 x6 x7 p a q r) w1):=H0.out.later b1;clear b1 H0 CT;go_wp2_with (refine aT H1.out.2.1 rfl (us:=aA s k nm n x0 x1 x2 x3 x4 x5 x6 x7 p TA TQ TR) rfl (aG ..) rfl _ _ rfl rfl rfl ?_;intro w9 HU9 HM9);refine bodyPost_ret (bX rfl _ _ (w.heap.size+1) _ rfl rfl HU9) rfl ⟨rfl,HM9.2 _ _ (za _) H1.out.2.2⟩
 |false=>
  have hb:dV ⟨s,⟨k,nm,n,[x0,x1,x2,x3,x4,x5,x6,x7]⟩,p,a,q,r⟩ t.data.toList=⟨s,⟨k,nm,n,[x0,x1,x2,x3,x4,x5,x6,x7]⟩,p,gK (upT a++t),kZ (upT a++t),gF (upT a++t)⟩:=Gq h1 (by rw[hd];exact h63) hsl;rw[hb];simp only;have hus:(upT a).size<=1048576:=by
   unfold upT;rw[ze];omega
  have CU:Hid (∀W,Calls prog 127 #[L a] W fun e w'=>e=Y (L (upT a))/\W=w'):=fun W=>Dc a W ha
  have CT:Hid (∀W,CB 59 #[F (aA s k nm n x0 x1 x2 x3 x4 x5 x6 x7 p a q r).toArray,L (upT a++t)] W (F (aA s k nm n x0 x1 x2 x3 x4 x5 x6 x7 p (gK (upT a++t)) (kZ (upT a++t)) (gF (upT a++t))).toArray)):=fun W=>zE s k n p nm a r q x0 x1 x2 x3 x4 x5 x6 x7 (upT a++t) W (by rw[zm];omega)
  rw[hsl]at CS;generalize gK (upT a++t)=TA at CT⊢;generalize kZ (upT a++t)=TQ at CT⊢;generalize gF (upT a++t)=TR at CT⊢;generalize upT a=U at CT CU hus;clear hb h0 h63 hsl;have hn:=PA.new w s k n p nm a r q x0 x1 x2 x3 x4 x5 x6 x7;obtain ⟨O,hO⟩: ∃O,O=(w.alloc (Z #[I J s,I J k,L nm,I J n,I J x0,I J x1,I J x2,I J x3,I J x4,I J x5,I J x6,I J x7,I J p,L a,G q,L r] 28)).alloc (Z #[I J 0,I J 0,L ⟨#[]⟩,I J 0,I J 0,I J 0,I J 0,I J 0,I J 0,I J 0,I J 0,I J 0,I J 0,L ⟨#[]⟩,G false,L ⟨#[]⟩] 28):=⟨_,rfl⟩;rw[<-hO]at hn;have H0:Hid (PA w (aA s k nm n x0 x1 x2 x3 x4 x5 x6 x7 p a q r) O):=hn;clear hn;go_enter func67,ntmps67
  go_upto_region 1 with fail
  rw[<-hO];clear hO;have c13:=H0.out.1.1 13 _ rfl;go_wp2_with fail;refine (CS.out _).mono ?_;rintro e w' ⟨rfl,rfl⟩;clear CS hd hd1 q63;go_wp2_with fail;refine j3 CU ?_;clear CU c13;go_wp2_with (refine bA H0.out.1 rfl rfl _ rfl rfl ?_);refine (CT.out _).mono ?_;rintro e w1 ⟨rfl,b1⟩;have H1:Hid (PA w (aA s k nm n x0 x1 x2 x3 x4 x5 x6 x7 p a q r) w1):=H0.out.later b1;clear b1 H0 CT;go_wp2_with (refine aT H1.out.2.1 rfl (us:=aA s k nm n x0 x1 x2 x3 x4 x5 x6 x7 p TA TQ TR) rfl (aG ..) rfl _ _ rfl rfl rfl ?_;intro w9 HU9 HM9);refine bodyPost_ret (bX rfl _ _ (w.heap.size+1) _ rfl rfl HU9) rfl ⟨rfl,HM9.2 _ _ (za _) H1.out.2.2⟩
end
section
open Go.RowKit
attribute [local go_sem↓] Go.wp_at_zero Go.wp_at_succ
theorem X9{u:UV}(h:u.h.z.length=8):(wE u).2.h.z.length=8:=by
 unfold wE;split
 .exact h
 rfl
theorem JT(s p:Int)(a r:List UInt8):(pC s p a r).2.h.z.length=8:=by
 unfold pC;split
 .exact X9 (iK _)
 rfl
theorem gL(l:List UInt8):(aU l).2.h.z.length=8:=by
 unfold aU;split
 .rfl
 unfold qN;split
 .rfl
 unfold oI tA;split
 .rfl
 unfold yI;split
 .exact JT _ _ _ _
 split
 .exact JT _ _ _ _
 rfl
theorem iW(u:UV)(h:u.h.z.length=8): ∃(s k n p:Int) (nm a r:ByteArray) (q:Bool) (x0 x1 x2 x3 x4 x5 x6 x7:Int),u=⟨s,⟨k,nm,n,[x0,x1,x2,x3,x4,x5,x6,x7]⟩,p,a,q,r⟩:=by
 obtain ⟨s,⟨k,nm,n,z⟩,p,a,q,r⟩:=u
 match z,h with
 |[x0,x1,x2,x3,x4,x5,x6,x7],_=>exact ⟨s,k,n,p,nm,a,r,q,x0,x1,x2,x3,x4,x5,x6,x7,rfl⟩
theorem eT(s k n p:Int)(nm a r:ByteArray)(q:Bool)(x0 x1 x2 x3 x4 x5 x6 x7:Int):gV ⟨s,⟨k,nm,n,[x0,x1,x2,x3,x4,x5,x6,x7]⟩,p,a,q,r⟩=F (aA s k nm n x0 x1 x2 x3 x4 x5 x6 x7 p a q r).toArray:=rfl
theorem PU.set{w:World}{row:List Value}{W:World}{C:Nat}(h:PU w row W)(hC:w.heap.size<C)(j:Nat)(v:Value):PU w row (W.setCell ⟨C,j,none⟩ v):=⟨h.1.other om j v,h.2.setCell (p:=⟨C,j,none⟩) (by show _<=C;omega) v⟩
theorem JU(W:World)(o1 o2 o3 o4:Obj):Below W.heap.size W ((((W.alloc o1).alloc o2).alloc o3).alloc o4):=
 ((((zl _ W).alloc (zi _) _).alloc j2 _).alloc (by simp;omega) _).alloc (by simp;omega) _
def SN(w:World)(NB:Nat)(c:Int)(W:World):Prop:=PU w aM W/\UAt W NB [I J c]/\w.heap.size<NB
theorem SN.drew{w:World}{NB:Nat}{c:Int}{W:World}(h:SN w NB c W):SN w NB c W.drew:=⟨h.1.drew,h.2⟩
theorem SN.stored{w:World}{NB:Nat}{c:Int}{W:World}(h:SN w NB c W):SN w NB c (W.setCells w.heap.size 0 aM.toArray.toList):=by
 have hm:=bW (C:=w.heap.size) aM.toArray.toList 0 W;have h3:=h.2.2;exact ⟨⟨fZ h.1.1 rfl rfl,hm.2 _ _ (zi _) h.1.2⟩,hm.1 _ _ om h.2.1,h3⟩
theorem JV{w w':World}(h:QN w)(hb:Below w.heap.size w w'):QN w':=cell_later hb h
theorem RE(t:ByteArray)(w:World)(hs:t.size<=1099511627776)(hT:Lib.Utf8Tabs 12 13 w)(hP:Pow w)(hD:cC w)(hM:rI w)(hK:iX w)(hE:QN w):Calls prog 18 #[L t] w fun e w'=>e=Y (H #[gV (aU t.data.toList).2,I J (aU t.data.toList).1])/\Below w.heap.size w w':=by
 have CR:Hid (∀W,Below w.heap.size w W->CB 46 #[L t] W (H #[gV (aU t.data.toList).2,A4 (aU t.data.toList).1])):=fun W hb=>WY t W hs (cV hT hb) (dQ hP hb) (bF hD hb) (jV hM hb) (hK.later hb)
 have HER:Hid (∀W,Below w.heap.size w W->QN W):=fun W hb=>JV hE hb
 have hrt:=uO t.data.toList;obtain ⟨s,k,n,p,nm,a,r,q,x0,x1,x2,x3,x4,x5,x6,x7,hu⟩:=iW _ (gL t.data.toList);have HN:Hid ((aU t.data.toList).1≠0->(aA s k nm n x0 x1 x2 x3 x4 x5 x6 x7 p a q r)=aM):=fun h=>by
  rcases hrt with ⟨_,_,h3⟩|⟨h3,_⟩
  .rw[hu]at h3
   have e:=congrArg WC h3;exact e
  exact absurd h3 h
 rw[hu,eT]at CR⊢;generalize (aU t.data.toList).1=c at CR HN⊢;clear hT hP hD hM hK hE hrt hu;obtain ⟨O,hO⟩: ∃O,O=w.alloc (Z #[I J 0,I J 0,L ⟨#[]⟩,I J 0,I J 0,I J 0,I J 0,I J 0,I J 0,I J 0,I J 0,I J 0,I J 0,L ⟨#[]⟩,G false,L ⟨#[]⟩] 28):=⟨_,rfl⟩;have HU:Hid (PU w aM O):=by
  rw[hO];exact PU.new w _ _
 go_enter func18,ntmps18
 go_upto_region 1 with fail
 rw[<-hO];clear hO;go_wp2_with fail;refine (CR.out _ HU.out.2).mono ?_;rintro e w1 ⟨rfl,b1⟩;have HU1:Hid (PU w aM w1):=HU.out.later b1;clear b1 HU CR;have HU1a:Hid (PU w aM (w1.alloc (Z #[I J 0,I J 0,L ⟨#[]⟩,I J 0,I J 0,I J 0,I J 0,I J 0,I J 0,I J 0,I J 0,I J 0,I J 0,L ⟨#[]⟩,G false,L ⟨#[]⟩] 28))):=HU1.out.later ((zl _ _).alloc (zi _) _);have hlt:w.heap.size<w1.heap.size:=HU1.out.1.2.2
 go_upto_region 2 with (refine aT (UAt.new w1 _ _) rfl (us:=aA s k nm n x0 x1 x2 x3 x4 x5 x6 x7 p a q r) rfl (aG ..) rfl _ _ rfl rfl rfl ?_;intro w2 HUh HMh)
 have HU2:Hid (PU w aM w2):=HU1a.out.moved hlt HMh;have HV2:Hid (UAt w2 w1.heap.size (aA s k nm n x0 x1 x2 x3 x4 x5 x6 x7 p a q r)):=HUh;clear HUh HMh HU1a HU1;generalize w1.heap.size=V at HV2 hlt⊢;have HU3:Hid (PU w aM (w2.alloc (Z #[I J 0] 69))):=HU2.out.later ((zl _ _).alloc (zi _) _);have HV3:Hid (UAt (w2.alloc (Z #[I J 0] 69)) V (aA s k nm n x0 x1 x2 x3 x4 x5 x6 x7 p a q r)):=HV2.out.below ((zl _ _).alloc (zi _) _);have HN3:Hid (UAt (w2.alloc (Z #[I J 0] 69)) w2.heap.size [I J 0]):=UAt.new w2 _ _;have hlt2:w.heap.size<w2.heap.size:=HU2.out.1.2.2
 go_upto_region 3 with fail
 clear HU2 HV2;generalize (w2.alloc (Z #[I J 0] 69))=w3 at HU3 HV3 HN3⊢;generalize w2.heap.size=NB at HN3 hlt2⊢
 by_cases hc:c=0
 .subst hc
  go_wp2_with fail;refine j5 (Ni _ _) ?_;go_wp2_with (first|(refine bA HV3.out rfl rfl _ rfl rfl ?_)|(refine aT HU3.out.1 rfl (us:=aA s k nm n x0 x1 x2 x3 x4 x5 x6 x7 p a q r) rfl (aG ..) rfl _ _ rfl rfl rfl ?_;intro w9 HU9 HM9));refine bodyPost_ret (aQ rfl _ _ w.heap.size (I J 0) _ rfl rfl rfl HU9) rfl ⟨rfl,HM9.2 _ _ (zi _) HU3.out.2⟩
 rw[HN.out hc,M5 hc];go_wp2_with fail;refine (Nl c NB _ _ (HER.out _ HU3.out.2) (HN3.out.1 0 _ rfl) (HN3.out.2.1 0)).mono ?_;rintro e w4 ⟨rfl,hw4⟩;have hn4:SN w NB c w4:=by
  rw[hw4];exact ⟨(HU3.out.later (JU w3 _ _ _ _)).set hlt2 0 _,(HN3.out.below (JU w3 _ _ _ _)).set 0 de _,hlt2⟩
 clear hw4
 go_upto_region 4 with fail
 refine wp_region_held_drew (S:=SN w NB c) kr (SN.drew hn4) (fun hH=> ?_);clear hn4;refine wpAnyH_take (i:=0) (v:=F aM.toArray) rfl kr kr kr (fun _ _ _ h=>h) (Or.inl ⟨by rfl,?_⟩) hH ?_
 .intro W hW
  kernel_rfl
 refine wpAnyH_take (i:=1) (v:=.pointer (some ⟨NB,0,none⟩)) rfl kr kr kr (fun _ _ _ h=>h) (Or.inl ⟨by rfl,?_⟩) hH ?_
 .intro W hW
  kernel_rfl
 refine wpAnyH_take (i:=2) (v:=I J c) rfl kr kr kr (fun _ _ _ h=>h) (Or.inl ⟨by rfl,?_⟩) hH ?_
 .intro W hW
  have hcell:=hW.2.1.1 0 _ rfl;clear hW;go_simp
 refine wpAnyH_ready (rs:=[3]) kr j2 (zp rfl (fun K hK=> ?_) zq);rw[if_pos (by rfl)];refine wp_store_mid _ _ _ rfl w.heap.size 0 aM.toArray rfl rfl (hH.1.1.there 0 16 (by show 0+16<=16;decide)) infoUrl (aG ..) ?_;refine hK.out _ _ (SN.stored hH) (fun hZ=> ?_);clear hK K hH;generalize w4.drew.setCells w.heap.size 0 aM.toArray.toList=w9 at hZ⊢;refine wpAnyH_take (i:=4) (v:=I J c) rfl kr kr kr (fun _ _ _ h=>h) (Or.inl ⟨by rfl,?_⟩) hZ ?_
 .intro W hW
  kernel_rfl
 refine wpAnyH_done kr ?_ _;simp only[zr,zh,zg,zf,zc,zk,zj];go_wp2_with fail;refine bodyPost_ret (aQ rfl _ _ w.heap.size (I J c) _ rfl rfl rfl hZ.1.1) rfl ⟨by rw[HN.out hc],hZ.1.2⟩
end
section
open Go.RowKit
set_option linter.unusedVariables false
set_option linter.unusedSimpArgs false
theorem XB(l:ByteArray):(gK l).size<=3*l.size+3:=by
 unfold gK;refine zd (rX _) (zd (kO _ _) ?_);have h1:(gZ (kY l)).size<=l.size+1:=by
  unfold gZ;split
  .rw[show (⟨#[47]⟩:ByteArray).size=1 from rfl];omega
  exact zd (iM l).1 (za _)
 have h2:(⟨(eO (gZ (kY l)).data.toList).toArray⟩:ByteArray).size=(gZ (kY l)).size:=by
  show (eO (gZ (kY l)).data.toList).toArray.size=_;rw[List.size_toArray,gU];simp
 omega
theorem XC(l:ByteArray):(gF l).size<=3*l.size:=by
 unfold gF;refine zd (kO _ _) ?_;have h1:(iC l).size<=l.size:=(iM l).2;rw[ze];omega
theorem Kt(a:ByteArray):(upT a).size<=a.size:=by
 unfold upT;rw[ze];omega
theorem zQ(b:UV)(t:ByteArray)(ha:b.a.size<=1048576)(hr:b.r.size<=1048576)(ht:t.size<=2000):(dV b t.data.toList).a.size<=4194304/\(dV b t.data.toList).r.size<=4194304:=by
 by_cases h0:t.size=0
 .rw[M6 h0]
  exact ⟨zd ha de,zd hr de⟩
 have h1:0<t.size:=om
 by_cases h63:t[0].toNat=63
 .have e:=M7 (b:=b) h1 h63
  have ea:(dV b t.data.toList).a=b.a:=by rw[e]
  have er:(dV b t.data.toList).r=plB 2 (t.extract 1 t.size):=by rw[e]
  rw[ea,er];have h5:=kO 2 (t.extract 1 t.size);have h6:(t.extract 1 t.size).size<=t.size:=by rw[ze];omega
  exact ⟨zd ha de,zd h5 om⟩
 cases hs:slB t[0]with
 |true=>
  have e:=NL (b:=b) h1 h63 hs;have ea:(dV b t.data.toList).a=gK t:=by rw[e]
  have er:(dV b t.data.toList).r=gF t:=by rw[e]
  rw[ea,er];exact ⟨zd (XB t) om,zd (XC t) om⟩
 |false=>
  have e:=Gq (b:=b) h1 h63 hs;have ea:(dV b t.data.toList).a=gK (upT b.a++t):=by rw[e]
  have er:(dV b t.data.toList).r=gF (upT b.a++t):=by rw[e]
  rw[ea,er];have h4:=Kt b.a;have h5:(upT b.a++t).size<=1050576:=by rw[zm];omega
  exact ⟨zd (XB _) om,zd (XC _) om⟩
theorem RF{b:UV}{l:List UInt8}(h:uOk b=false):fU b l=(4,cP):=by unfold fU;rw[if_neg (by rw[h];decide)]
theorem XD{b:UV}{l:List UInt8}(h:uOk b=true)(hl:2000<l.length):fU b l=(1,cP):=by unfold fU;rw[if_pos h,if_pos hl]
theorem Gr{b:UV}{l:List UInt8}(h:uOk b=true)(hl: ¬2000<l.length):fU b l=uR b (cK l):=by unfold fU;rw[if_pos h,if_neg hl]
theorem M8{b:UV}{t:List UInt8}(h:jA t≠[]):uR b t=aU t:=by unfold uR;rw[if_pos h]
theorem M9{b:UV}{t:List UInt8}(h:jA t=[])(h2:qY t=true):uR b t=aU (gH b.s++t):=by unfold uR;rw[if_neg (by rw[h];simp),if_pos h2]
theorem EL{b:UV}{t:List UInt8}(h:jA t=[])(h2:qY t=false):uR b t=oS (dV b t):=by unfold uR;rw[if_neg (by rw[h];simp),if_neg (by rw[h2];decide)]
theorem tM{R:Int×UV}{c:Int}(h:R=(c,cP)):Ending.returned (H #[F aM.toArray,I J c])=Y (H #[gV R.2,I J R.1]):=by rw[h];rfl
theorem tN{R:Int×UV}{c:Int}{u:UV}{v:Value}(h:R=(c,u))(hv:gV u=v):Ending.returned (H #[v,I J c])=Y (H #[gV R.2,I J R.1]):=by rw[h,hv]
theorem DI(s k n p:Int)(nm a r:ByteArray)(q:Bool)(x0 x1 x2 x3 x4 x5 x6 x7:Int)(S:ByteArray)(w:World)(hs:nm.size<=1048576)(ha:a.size<=1048576)(hr:r.size<=1048576)(hS:S.size<=1099511627776):Calls prog 23 #[F #[I J s,I J k,L nm,I J n,I J x0,I J x1,I J x2,I J x3,I J x4,I J x5,I J x6,I J x7,I J p,L a,G q,L r],L S] w fun e w'=>e=Y (H #[gV (fU ⟨s,⟨k,nm,n,[x0,x1,x2,x3,x4,x5,x6,x7]⟩,p,a,q,r⟩ S.data.toList).2,I J (fU ⟨s,⟨k,nm,n,[x0,x1,x2,x3,x4,x5,x6,x7]⟩,p,a,q,r⟩ S.data.toList).1])/\Below w.heap.size w w':=by
 have CO:Hid (∀W,CB 14 #[F (aA s k nm n x0 x1 x2 x3 x4 x5 x6 x7 p a q r).toArray] W (G (uOk ⟨s,⟨k,nm,n,[x0,x1,x2,x3,x4,x5,x6,x7]⟩,p,a,q,r⟩))):=fun W=>NH s k n p nm a r q x0 x1 x2 x3 x4 x5 x6 x7 W hs om om
 have hSl:S.data.toList.length=S.size:=by simp
 obtain ⟨R,hR0⟩: ∃R,R=fU ⟨s,⟨k,nm,n,[x0,x1,x2,x3,x4,x5,x6,x7]⟩,p,a,q,r⟩ S.data.toList:=⟨_,rfl⟩;rw[<-hR0];have HRR:Hid (R=fU ⟨s,⟨k,nm,n,[x0,x1,x2,x3,x4,x5,x6,x7]⟩,p,a,q,r⟩ S.data.toList):=hR0;clear hR0;have hn:=PA.new w s k n p nm a r q x0 x1 x2 x3 x4 x5 x6 x7;obtain ⟨O,hO⟩: ∃O,O=(w.alloc (Z #[I J s,I J k,L nm,I J n,I J x0,I J x1,I J x2,I J x3,I J x4,I J x5,I J x6,I J x7,I J p,L a,G q,L r] 28)).alloc (Z #[I J 0,I J 0,L ⟨#[]⟩,I J 0,I J 0,I J 0,I J 0,I J 0,I J 0,I J 0,I J 0,I J 0,I J 0,L ⟨#[]⟩,G false,L ⟨#[]⟩] 28):=⟨_,rfl⟩;rw[<-hO]at hn;have hlt:w.heap.size+1<O.heap.size:=hn.2.1.2.2;have H1a:Hid (PA w (aA s k nm n x0 x1 x2 x3 x4 x5 x6 x7 p a q r) (O.alloc (Z #[I J 0,I J 0,L ⟨#[]⟩,I J 0,I J 0,I J 0,I J 0,I J 0,I J 0,I J 0,I J 0,I J 0,I J 0,L ⟨#[]⟩,G false,L ⟨#[]⟩] 28))):=hn.later ((zl _ _).alloc (zi _) _);clear hn;go_enter func23,ntmps23
 go_upto_region 1 with fail
 rw[<-hO];clear hO
 go_upto_region 2 with (refine aT (UAt.new O _ _) rfl (us:=aM) rfl (aG ..) rfl _ _ rfl rfl rfl ?_;intro w1 HUh HMh)
 have HJ:Hid (PJ w O.heap.size (aA s k nm n x0 x1 x2 x3 x4 x5 x6 x7 p a q r) aM w1):=⟨H1a.out.moved hlt HMh,HUh,hlt⟩;clear HUh HMh H1a hlt;generalize O.heap.size=V at HJ⊢;go_wp2_with (refine bA HJ.out.1.1 rfl rfl _ rfl rfl ?_);refine (CO.out _).mono ?_;rintro e w2 ⟨rfl,b2⟩;have HJ2:Hid (PJ w V (aA s k nm n x0 x1 x2 x3 x4 x5 x6 x7 p a q r) aM w2):=HJ.out.later b2;clear b2 HJ CO
 cases hok:uOk ⟨s,⟨k,nm,n,[x0,x1,x2,x3,x4,x5,x6,x7]⟩,p,a,q,r⟩with
 |false=>
  have HZ:Hid (R=(4,cP)):=HRR.out.trans (RF hok);clear hok hSl;go_wp2_with (first|(refine bA HJ2.out.2.1 rfl rfl _ rfl rfl ?_)|(refine aT HJ2.out.1.2.1 rfl (us:=aM) rfl (aG ..) rfl _ _ rfl rfl rfl ?_;intro w9 HU9 HM9));refine bodyPost_ret (aQ rfl _ _ (w.heap.size+1) (I J 4) _ rfl rfl rfl HU9) rfl ⟨tM HZ.out,HM9.2 _ _ (za _) HJ2.out.1.2.2⟩
 |true=>
  by_cases hbig:2000<S.size
  .have HZ:Hid (R=(1,cP)):=HRR.out.trans (XD hok om)
   have hbi:2000<(S.size:Int):=om;clear hok hSl hbig;go_wp2_with (first|(refine bA HJ2.out.2.1 rfl rfl _ rfl rfl ?_)|(refine aT HJ2.out.1.2.1 rfl (us:=aM) rfl (aG ..) rfl _ _ rfl rfl rfl ?_;intro w9 HU9 HM9));refine bodyPost_ret (aQ rfl _ _ (w.heap.size+1) (I J 1) _ rfl rfl rfl HU9) rfl ⟨tM HZ.out,HM9.2 _ _ (za _) HJ2.out.1.2.2⟩
  have HR0:R=uR ⟨s,⟨k,nm,n,[x0,x1,x2,x3,x4,x5,x6,x7]⟩,p,a,q,r⟩ (cK S.data.toList):=HRR.out.trans (Gr hok om);have hts:(⟨(cK S.data.toList).toArray⟩:ByteArray).size<=2000:=by
   have h1:=uI S.data.toList;rw[cR];omega
  have CA:Hid (∀W,CB 51 #[L S] W (L ⟨(cK S.data.toList).toArray⟩)):=fun W=>MJ S W om
  have HR:Hid (R=uR ⟨s,⟨k,nm,n,[x0,x1,x2,x3,x4,x5,x6,x7]⟩,p,a,q,r⟩ (⟨(cK S.data.toList).toArray⟩:ByteArray).data.toList):=HR0;generalize (⟨(cK S.data.toList).toArray⟩:ByteArray)=T at hts CA HR;have hbi: ¬2000<(S.size:Int):=om;have hss:=nO s;clear hSl hbig HR0 HRR;have CSc:Hid (∀W,CB 65 #[L T] W (L ⟨(jA T.data.toList).toArray⟩)):=fun W=>QX T W om
  go_wp2_with fail;refine (CA.out _).mono ?_;rintro e w3 ⟨rfl,b3⟩;have HJ3:Hid (PJ w V (aA s k nm n x0 x1 x2 x3 x4 x5 x6 x7 p a q r) aM w3):=HJ2.out.later b3;clear b3 HJ2 CA hbi
  by_cases hsc:jA T.data.toList=[]
  .rw[hsc]at CSc
   have hemp:(⟨([]:List UInt8).toArray⟩:ByteArray).toList.isEmpty=true:=by rw[tK];rfl
   have HSC:Hid (jA T.data.toList=[]):=hsc;clear hsc;generalize (⟨([]:List UInt8).toArray⟩:ByteArray)=E at CSc hemp;go_wp2_with fail;refine (CSc.out _).mono ?_;rintro e w4 ⟨rfl,b4⟩;have HJ4:Hid (PJ w V (aA s k nm n x0 x1 x2 x3 x4 x5 x6 x7 p a q r) aM w4):=HJ3.out.later b4;clear b4 HJ3 CSc
   by_cases h2:1<(T.size:Int)
   .obtain ⟨d,hd⟩: ∃d:Nat,T[0].toNat=d:=⟨_,rfl⟩
    obtain ⟨y,hy⟩: ∃y:Nat,T[1].toNat=y:=⟨_,rfl⟩;have hd1:(d:Int)<=255:=by have:=T[0].toNat_lt;omega
    have hy1:(y:Int)<=255:=by have:=T[1].toNat_lt;omega
    have C0:Hid (∀W,CS 53 #[.int .u8 (d:Int)] W (G (slB T[0]))):=fun W=>kA _ d hd W
    have C1:Hid (∀W,CS 53 #[.int .u8 (y:Int)] W (G (slB T[1]))):=fun W=>kA _ y hy W
    have HV:Hid (qY T.data.toList=(slB T[0]&&slB T[1])):=Fw om;have h1:1<T.size:=om;generalize slB T[0]=b0 at HV C0;generalize slB T[1]=b1 at HV C1
    cases b0 with
    |false=>
     have HE:Hid (R=oS (dV ⟨s,⟨k,nm,n,[x0,x1,x2,x3,x4,x5,x6,x7]⟩,p,a,q,r⟩ T.data.toList)):=HR.out.trans (EL HSC.out (by rw[HV.out];rfl));clear HR HSC HV;go_wp2_with fail;refine (C0.out _).mono ?_;rintro e w' ⟨rfl,rfl⟩;clear C0 C1 hd hy hd1 hy1;obtain ⟨hja,hjr⟩:=zQ ⟨s,⟨k,nm,n,[x0,x1,x2,x3,x4,x5,x6,x7]⟩,p,a,q,r⟩ T ha hr hts;have CJ:Hid (∀W,CB 67 #[F (aA s k nm n x0 x1 x2 x3 x4 x5 x6 x7 p a q r).toArray,L T] W (F (aA s k nm n x0 x1 x2 x3 x4 x5 x6 x7 p (dV ⟨s,⟨k,nm,n,[x0,x1,x2,x3,x4,x5,x6,x7]⟩,p,a,q,r⟩ T.data.toList).a (dV ⟨s,⟨k,nm,n,[x0,x1,x2,x3,x4,x5,x6,x7]⟩,p,a,q,r⟩ T.data.toList).q (dV ⟨s,⟨k,nm,n,[x0,x1,x2,x3,x4,x5,x6,x7]⟩,p,a,q,r⟩ T.data.toList).r).toArray)):=fun W=>wT s k n p nm a r q x0 x1 x2 x3 x4 x5 x6 x7 T W om hts
     have hbs:=zP ⟨s,⟨k,nm,n,[x0,x1,x2,x3,x4,x5,x6,x7]⟩,p,a,q,r⟩ T.data.toList;have HE2:Hid (R=oS ⟨s,⟨k,nm,n,[x0,x1,x2,x3,x4,x5,x6,x7]⟩,p,(dV ⟨s,⟨k,nm,n,[x0,x1,x2,x3,x4,x5,x6,x7]⟩,p,a,q,r⟩ T.data.toList).a,(dV ⟨s,⟨k,nm,n,[x0,x1,x2,x3,x4,x5,x6,x7]⟩,p,a,q,r⟩ T.data.toList).q,(dV ⟨s,⟨k,nm,n,[x0,x1,x2,x3,x4,x5,x6,x7]⟩,p,a,q,r⟩ T.data.toList).r⟩):=HE.out.trans (congrArg oS hbs);clear HE hbs hok;generalize (dV ⟨s,⟨k,nm,n,[x0,x1,x2,x3,x4,x5,x6,x7]⟩,p,a,q,r⟩ T.data.toList).a=JA at CJ HE2 hja;generalize (dV ⟨s,⟨k,nm,n,[x0,x1,x2,x3,x4,x5,x6,x7]⟩,p,a,q,r⟩ T.data.toList).q=JQ at CJ HE2;generalize (dV ⟨s,⟨k,nm,n,[x0,x1,x2,x3,x4,x5,x6,x7]⟩,p,a,q,r⟩ T.data.toList).r=JR at CJ HE2 hjr;have CT:Hid (∀W,CB 68 #[F (aA s k nm n x0 x1 x2 x3 x4 x5 x6 x7 p JA JQ JR).toArray] W (L ⟨(uTx ⟨s,⟨k,nm,n,[x0,x1,x2,x3,x4,x5,x6,x7]⟩,p,JA,JQ,JR⟩).toArray⟩)):=fun W=>tI s k n p nm JA JR JQ x0 x1 x2 x3 x4 x5 x6 x7 W hs hja hjr
     have HL:Hid (oS ⟨s,⟨k,nm,n,[x0,x1,x2,x3,x4,x5,x6,x7]⟩,p,JA,JQ,JR⟩=if (⟨(uTx ⟨s,⟨k,nm,n,[x0,x1,x2,x3,x4,x5,x6,x7]⟩,p,JA,JQ,JR⟩).toArray⟩:ByteArray).size<=2000 then (0,⟨s,⟨k,nm,n,[x0,x1,x2,x3,x4,x5,x6,x7]⟩,p,JA,JQ,JR⟩)else (1,cP)):=by show _=_;rw[cR];rfl
     generalize (⟨(uTx ⟨s,⟨k,nm,n,[x0,x1,x2,x3,x4,x5,x6,x7]⟩,p,JA,JQ,JR⟩).toArray⟩:ByteArray)=TX at CT HL;go_wp2_with (refine bA HJ4.out.1.1 rfl rfl _ rfl rfl ?_);refine (CJ.out _).mono ?_;rintro e w5 ⟨rfl,b5⟩;have h5:=HJ4.out.later b5;have hlt5:V<w5.heap.size:=h5.2.1.2.2;have h5a:Hid (PJ w V (aA s k nm n x0 x1 x2 x3 x4 x5 x6 x7 p a q r) aM (w5.alloc (Z #[I J 0,I J 0,L ⟨#[]⟩,I J 0,I J 0,I J 0,I J 0,I J 0,I J 0,I J 0,I J 0,I J 0,I J 0,L ⟨#[]⟩,G false,L ⟨#[]⟩] 28))):=h5.later ((zl _ _).alloc (zi _) _);clear b5 HJ4 CJ
     go_upto_region 12 with (refine aT (UAt.new w5 _ _) rfl (us:=aA s k nm n x0 x1 x2 x3 x4 x5 x6 x7 p JA JQ JR) rfl (aG ..) rfl _ _ rfl rfl rfl ?_;intro w6 HUh HMh)
     have HJ6:Hid (PJ w V (aA s k nm n x0 x1 x2 x3 x4 x5 x6 x7 p a q r) aM w6):=⟨h5a.out.1.moved (by have:=h5.2.2;omega) HMh,HMh.1 _ _ om h5a.out.2.1,h5.2.2⟩;have HV6:Hid (UAt w6 w5.heap.size (aA s k nm n x0 x1 x2 x3 x4 x5 x6 x7 p JA JQ JR)):=HUh;clear HUh HMh h5a h5 hlt5;generalize w5.heap.size=V2 at HV6⊢;go_wp2_with (refine bA HV6.out rfl rfl _ rfl rfl ?_);refine (CT.out _).mono ?_;rintro e w7 ⟨rfl,b7⟩;have HJ7:Hid (PJ w V (aA s k nm n x0 x1 x2 x3 x4 x5 x6 x7 p a q r) aM w7):=HJ6.out.later b7;have HV7:Hid (UAt w7 V2 (aA s k nm n x0 x1 x2 x3 x4 x5 x6 x7 p JA JQ JR)):=HV6.out.below b7;clear b7 HJ6 HV6 CT
     by_cases hfit:2000<(TX.size:Int)
     .have HZ:Hid (R=(1,cP)):=by
       show _=_;rw[HE2.out,HL.out,if_neg om]
      clear HL HE2;go_wp2_with (first|(refine bA HJ7.out.2.1 rfl rfl _ rfl rfl ?_)|(refine aT HJ7.out.1.2.1 rfl (us:=aM) rfl (aG ..) rfl _ _ rfl rfl rfl ?_;intro w9 HU9 HM9));refine bodyPost_ret (aQ rfl _ _ (w.heap.size+1) (I J 1) _ rfl rfl rfl HU9) rfl ⟨tM HZ.out,HM9.2 _ _ (za _) HJ7.out.1.2.2⟩
     have HF:Hid (R=(0,⟨s,⟨k,nm,n,[x0,x1,x2,x3,x4,x5,x6,x7]⟩,p,JA,JQ,JR⟩)):=by
      show _=_;rw[HE2.out,HL.out,if_pos om]
     clear HL HE2;go_wp2_with (first|(refine bA HV7.out rfl rfl _ rfl rfl ?_)|(refine aT HJ7.out.1.2.1 rfl (us:=aA s k nm n x0 x1 x2 x3 x4 x5 x6 x7 p JA JQ JR) rfl (aG ..) rfl _ _ rfl rfl rfl ?_;intro w9 HU9 HM9));refine bodyPost_ret (aQ rfl _ _ (w.heap.size+1) (I J 0) _ rfl rfl rfl HU9) rfl ⟨tN HF.out (eT ..),HM9.2 _ _ (za _) HJ7.out.1.2.2⟩
    |true=>
     cases b1 with
     |false=>
      have HE:Hid (R=oS (dV ⟨s,⟨k,nm,n,[x0,x1,x2,x3,x4,x5,x6,x7]⟩,p,a,q,r⟩ T.data.toList)):=HR.out.trans (EL HSC.out (by rw[HV.out];rfl));clear HR HSC HV;go_wp2_with fail;refine (C0.out _).mono ?_;rintro e w' ⟨rfl,rfl⟩;go_wp2_with fail;refine (C1.out _).mono ?_;rintro e w' ⟨rfl,rfl⟩;clear C0 C1 hd hy hd1 hy1;obtain ⟨hja,hjr⟩:=zQ ⟨s,⟨k,nm,n,[x0,x1,x2,x3,x4,x5,x6,x7]⟩,p,a,q,r⟩ T ha hr hts;have CJ:Hid (∀W,CB 67 #[F (aA s k nm n x0 x1 x2 x3 x4 x5 x6 x7 p a q r).toArray,L T] W (F (aA s k nm n x0 x1 x2 x3 x4 x5 x6 x7 p (dV ⟨s,⟨k,nm,n,[x0,x1,x2,x3,x4,x5,x6,x7]⟩,p,a,q,r⟩ T.data.toList).a (dV ⟨s,⟨k,nm,n,[x0,x1,x2,x3,x4,x5,x6,x7]⟩,p,a,q,r⟩ T.data.toList).q (dV ⟨s,⟨k,nm,n,[x0,x1,x2,x3,x4,x5,x6,x7]⟩,p,a,q,r⟩ T.data.toList).r).toArray)):=fun W=>wT s k n p nm a r q x0 x1 x2 x3 x4 x5 x6 x7 T W om hts
      have hbs:=zP ⟨s,⟨k,nm,n,[x0,x1,x2,x3,x4,x5,x6,x7]⟩,p,a,q,r⟩ T.data.toList;have HE2:Hid (R=oS ⟨s,⟨k,nm,n,[x0,x1,x2,x3,x4,x5,x6,x7]⟩,p,(dV ⟨s,⟨k,nm,n,[x0,x1,x2,x3,x4,x5,x6,x7]⟩,p,a,q,r⟩ T.data.toList).a,(dV ⟨s,⟨k,nm,n,[x0,x1,x2,x3,x4,x5,x6,x7]⟩,p,a,q,r⟩ T.data.toList).q,(dV ⟨s,⟨k,nm,n,[x0,x1,x2,x3,x4,x5,x6,x7]⟩,p,a,q,r⟩ T.data.toList).r⟩):=HE.out.trans (congrArg oS hbs);clear HE hbs hok;generalize (dV ⟨s,⟨k,nm,n,[x0,x1,x2,x3,x4,x5,x6,x7]⟩,p,a,q,r⟩ T.data.toList).a=JA at CJ HE2 hja;generalize (dV ⟨s,⟨k,nm,n,[x0,x1,x2,x3,x4,x5,x6,x7]⟩,p,a,q,r⟩ T.data.toList).q=JQ at CJ HE2;generalize (dV ⟨s,⟨k,nm,n,[x0,x1,x2,x3,x4,x5,x6,x7]⟩,p,a,q,r⟩ T.data.toList).r=JR at CJ HE2 hjr;have CT:Hid (∀W,CB 68 #[F (aA s k nm n x0 x1 x2 x3 x4 x5 x6 x7 p JA JQ JR).toArray] W (L ⟨(uTx ⟨s,⟨k,nm,n,[x0,x1,x2,x3,x4,x5,x6,x7]⟩,p,JA,JQ,JR⟩).toArray⟩)):=fun W=>tI s k n p nm JA JR JQ x0 x1 x2 x3 x4 x5 x6 x7 W hs hja hjr
      have HL:Hid (oS ⟨s,⟨k,nm,n,[x0,x1,x2,x3,x4,x5,x6,x7]⟩,p,JA,JQ,JR⟩=if (⟨(uTx ⟨s,⟨k,nm,n,[x0,x1,x2,x3,x4,x5,x6,x7]⟩,p,JA,JQ,JR⟩).toArray⟩:ByteArray).size<=2000 then (0,⟨s,⟨k,nm,n,[x0,x1,x2,x3,x4,x5,x6,x7]⟩,p,JA,JQ,JR⟩)else (1,cP)):=by show _=_;rw[cR];rfl
      generalize (⟨(uTx ⟨s,⟨k,nm,n,[x0,x1,x2,x3,x4,x5,x6,x7]⟩,p,JA,JQ,JR⟩).toArray⟩:ByteArray)=TX at CT HL;go_wp2_with (refine bA HJ4.out.1.1 rfl rfl _ rfl rfl ?_);refine (CJ.out _).mono ?_;rintro e w5 ⟨rfl,b5⟩;have h5:=HJ4.out.later b5;have hlt5:V<w5.heap.size:=h5.2.1.2.2;have h5a:Hid (PJ w V (aA s k nm n x0 x1 x2 x3 x4 x5 x6 x7 p a q r) aM (w5.alloc (Z #[I J 0,I J 0,L ⟨#[]⟩,I J 0,I J 0,I J 0,I J 0,I J 0,I J 0,I J 0,I J 0,I J 0,I J 0,L ⟨#[]⟩,G false,L ⟨#[]⟩] 28))):=h5.later ((zl _ _).alloc (zi _) _);clear b5 HJ4 CJ
      go_upto_region 12 with (refine aT (UAt.new w5 _ _) rfl (us:=aA s k nm n x0 x1 x2 x3 x4 x5 x6 x7 p JA JQ JR) rfl (aG ..) rfl _ _ rfl rfl rfl ?_;intro w6 HUh HMh)
      have HJ6:Hid (PJ w V (aA s k nm n x0 x1 x2 x3 x4 x5 x6 x7 p a q r) aM w6):=⟨h5a.out.1.moved (by have:=h5.2.2;omega) HMh,HMh.1 _ _ om h5a.out.2.1,h5.2.2⟩;have HV6:Hid (UAt w6 w5.heap.size (aA s k nm n x0 x1 x2 x3 x4 x5 x6 x7 p JA JQ JR)):=HUh;clear HUh HMh h5a h5 hlt5;generalize w5.heap.size=V2 at HV6⊢;go_wp2_with (refine bA HV6.out rfl rfl _ rfl rfl ?_);refine (CT.out _).mono ?_;rintro e w7 ⟨rfl,b7⟩;have HJ7:Hid (PJ w V (aA s k nm n x0 x1 x2 x3 x4 x5 x6 x7 p a q r) aM w7):=HJ6.out.later b7;have HV7:Hid (UAt w7 V2 (aA s k nm n x0 x1 x2 x3 x4 x5 x6 x7 p JA JQ JR)):=HV6.out.below b7;clear b7 HJ6 HV6 CT
      by_cases hfit:2000<(TX.size:Int)
      .have HZ:Hid (R=(1,cP)):=by
        show _=_;rw[HE2.out,HL.out,if_neg om]
       clear HL HE2;go_wp2_with (first|(refine bA HJ7.out.2.1 rfl rfl _ rfl rfl ?_)|(refine aT HJ7.out.1.2.1 rfl (us:=aM) rfl (aG ..) rfl _ _ rfl rfl rfl ?_;intro w9 HU9 HM9));refine bodyPost_ret (aQ rfl _ _ (w.heap.size+1) (I J 1) _ rfl rfl rfl HU9) rfl ⟨tM HZ.out,HM9.2 _ _ (za _) HJ7.out.1.2.2⟩
      have HF:Hid (R=(0,⟨s,⟨k,nm,n,[x0,x1,x2,x3,x4,x5,x6,x7]⟩,p,JA,JQ,JR⟩)):=by
       show _=_;rw[HE2.out,HL.out,if_pos om]
      clear HL HE2;go_wp2_with (first|(refine bA HV7.out rfl rfl _ rfl rfl ?_)|(refine aT HJ7.out.1.2.1 rfl (us:=aA s k nm n x0 x1 x2 x3 x4 x5 x6 x7 p JA JQ JR) rfl (aG ..) rfl _ _ rfl rfl rfl ?_;intro w9 HU9 HM9));refine bodyPost_ret (aQ rfl _ _ (w.heap.size+1) (I J 0) _ rfl rfl rfl HU9) rfl ⟨tN HF.out (eT ..),HM9.2 _ _ (za _) HJ7.out.1.2.2⟩
     |true=>
      have e2:((⟨(gH s).toArray⟩:ByteArray)++T).data.toList=gH s++T.data.toList:=by simp[zn]
      have HE:Hid (R=aU ((⟨(gH s).toArray⟩:ByteArray)++T).data.toList):=by show _=_;rw[e2];exact HR.out.trans (M9 HSC.out (by rw[HV.out];rfl))
      have CM:Hid (∀W,CS 66 #[I J s] W (L ⟨(gH s).toArray⟩)):=fun W=>IQ s W
      generalize (⟨(gH s).toArray⟩:ByteArray)=SC at CM HE hss;have hst:(SC++T).size<=2006:=by rw[zm];omega
      obtain ⟨s2,k2,n2,p2,nm2,a2,r2,q2,y0,y1,y2,y3,y4,y5,y6,y7,hu⟩:=iW _ (gL (SC++T).data.toList);have CP:Hid (∀W,CB 20 #[L (SC++T)] W (H #[F (aA s2 k2 nm2 n2 y0 y1 y2 y3 y4 y5 y6 y7 p2 a2 q2 r2).toArray,I J (aU (SC++T).data.toList).1])):=fun W=>by
       have h:=zF (SC++T) W om;rw[hu,eT]at h;exact h
      have HF:Hid (R=((aU (SC++T).data.toList).1,⟨s2,⟨k2,nm2,n2,[y0,y1,y2,y3,y4,y5,y6,y7]⟩,p2,a2,q2,r2⟩)):=by
       show _=_;rw[HE.out,<-hu]
      generalize (aU (SC++T).data.toList).1=c at CP HF;clear hu HE HR HSC HV e2 hok;have c0:=HJ4.out.1.1.1 0 _ rfl;go_wp2_with fail;refine (C0.out _).mono ?_;rintro e w' ⟨rfl,rfl⟩;go_wp2_with fail;refine (C1.out _).mono ?_;rintro e w' ⟨rfl,rfl⟩;clear C0 C1 hd hy hd1 hy1;go_wp2_with fail;refine (CM.out _).mono ?_;rintro e w' ⟨rfl,rfl⟩;clear CM;go_wp2_with fail;refine (CP.out _).mono ?_;rintro e w5 ⟨rfl,b5⟩;have HJ5:Hid (PJ w V (aA s k nm n x0 x1 x2 x3 x4 x5 x6 x7 p a q r) aM w5):=HJ4.out.later b5;clear b5 HJ4 CP c0;go_wp2_with (refine aT HJ5.out.1.2.1 rfl (us:=aA s2 k2 nm2 n2 y0 y1 y2 y3 y4 y5 y6 y7 p2 a2 q2 r2) rfl (aG ..) rfl _ _ rfl rfl rfl ?_;intro w9 HU9 HM9);refine bodyPost_ret (aQ rfl _ _ (w.heap.size+1) (I J c) _ rfl rfl rfl HU9) rfl ⟨tN HF.out (eT ..),HM9.2 _ _ (za _) HJ5.out.1.2.2⟩
   have HE:Hid (R=oS (dV ⟨s,⟨k,nm,n,[x0,x1,x2,x3,x4,x5,x6,x7]⟩,p,a,q,r⟩ T.data.toList)):=HR.out.trans (EL HSC.out (Fv om));clear HR HSC;obtain ⟨hja,hjr⟩:=zQ ⟨s,⟨k,nm,n,[x0,x1,x2,x3,x4,x5,x6,x7]⟩,p,a,q,r⟩ T ha hr hts;have CJ:Hid (∀W,CB 67 #[F (aA s k nm n x0 x1 x2 x3 x4 x5 x6 x7 p a q r).toArray,L T] W (F (aA s k nm n x0 x1 x2 x3 x4 x5 x6 x7 p (dV ⟨s,⟨k,nm,n,[x0,x1,x2,x3,x4,x5,x6,x7]⟩,p,a,q,r⟩ T.data.toList).a (dV ⟨s,⟨k,nm,n,[x0,x1,x2,x3,x4,x5,x6,x7]⟩,p,a,q,r⟩ T.data.toList).q (dV ⟨s,⟨k,nm,n,[x0,x1,x2,x3,x4,x5,x6,x7]⟩,p,a,q,r⟩ T.data.toList).r).toArray)):=fun W=>wT s k n p nm a r q x0 x1 x2 x3 x4 x5 x6 x7 T W om hts
   have hbs:=zP ⟨s,⟨k,nm,n,[x0,x1,x2,x3,x4,x5,x6,x7]⟩,p,a,q,r⟩ T.data.toList;have HE2:Hid (R=oS ⟨s,⟨k,nm,n,[x0,x1,x2,x3,x4,x5,x6,x7]⟩,p,(dV ⟨s,⟨k,nm,n,[x0,x1,x2,x3,x4,x5,x6,x7]⟩,p,a,q,r⟩ T.data.toList).a,(dV ⟨s,⟨k,nm,n,[x0,x1,x2,x3,x4,x5,x6,x7]⟩,p,a,q,r⟩ T.data.toList).q,(dV ⟨s,⟨k,nm,n,[x0,x1,x2,x3,x4,x5,x6,x7]⟩,p,a,q,r⟩ T.data.toList).r⟩):=HE.out.trans (congrArg oS hbs);clear HE hbs hok;generalize (dV ⟨s,⟨k,nm,n,[x0,x1,x2,x3,x4,x5,x6,x7]⟩,p,a,q,r⟩ T.data.toList).a=JA at CJ HE2 hja;generalize (dV ⟨s,⟨k,nm,n,[x0,x1,x2,x3,x4,x5,x6,x7]⟩,p,a,q,r⟩ T.data.toList).q=JQ at CJ HE2;generalize (dV ⟨s,⟨k,nm,n,[x0,x1,x2,x3,x4,x5,x6,x7]⟩,p,a,q,r⟩ T.data.toList).r=JR at CJ HE2 hjr;have CT:Hid (∀W,CB 68 #[F (aA s k nm n x0 x1 x2 x3 x4 x5 x6 x7 p JA JQ JR).toArray] W (L ⟨(uTx ⟨s,⟨k,nm,n,[x0,x1,x2,x3,x4,x5,x6,x7]⟩,p,JA,JQ,JR⟩).toArray⟩)):=fun W=>tI s k n p nm JA JR JQ x0 x1 x2 x3 x4 x5 x6 x7 W hs hja hjr
   have HL:Hid (oS ⟨s,⟨k,nm,n,[x0,x1,x2,x3,x4,x5,x6,x7]⟩,p,JA,JQ,JR⟩=if (⟨(uTx ⟨s,⟨k,nm,n,[x0,x1,x2,x3,x4,x5,x6,x7]⟩,p,JA,JQ,JR⟩).toArray⟩:ByteArray).size<=2000 then (0,⟨s,⟨k,nm,n,[x0,x1,x2,x3,x4,x5,x6,x7]⟩,p,JA,JQ,JR⟩)else (1,cP)):=by show _=_;rw[cR];rfl
   generalize (⟨(uTx ⟨s,⟨k,nm,n,[x0,x1,x2,x3,x4,x5,x6,x7]⟩,p,JA,JQ,JR⟩).toArray⟩:ByteArray)=TX at CT HL;go_wp2_with (refine bA HJ4.out.1.1 rfl rfl _ rfl rfl ?_);refine (CJ.out _).mono ?_;rintro e w5 ⟨rfl,b5⟩;have h5:=HJ4.out.later b5;have hlt5:V<w5.heap.size:=h5.2.1.2.2;have h5a:Hid (PJ w V (aA s k nm n x0 x1 x2 x3 x4 x5 x6 x7 p a q r) aM (w5.alloc (Z #[I J 0,I J 0,L ⟨#[]⟩,I J 0,I J 0,I J 0,I J 0,I J 0,I J 0,I J 0,I J 0,I J 0,I J 0,L ⟨#[]⟩,G false,L ⟨#[]⟩] 28))):=h5.later ((zl _ _).alloc (zi _) _);clear b5 HJ4 CJ
   go_upto_region 12 with (refine aT (UAt.new w5 _ _) rfl (us:=aA s k nm n x0 x1 x2 x3 x4 x5 x6 x7 p JA JQ JR) rfl (aG ..) rfl _ _ rfl rfl rfl ?_;intro w6 HUh HMh)
   have HJ6:Hid (PJ w V (aA s k nm n x0 x1 x2 x3 x4 x5 x6 x7 p a q r) aM w6):=⟨h5a.out.1.moved (by have:=h5.2.2;omega) HMh,HMh.1 _ _ om h5a.out.2.1,h5.2.2⟩;have HV6:Hid (UAt w6 w5.heap.size (aA s k nm n x0 x1 x2 x3 x4 x5 x6 x7 p JA JQ JR)):=HUh;clear HUh HMh h5a h5 hlt5;generalize w5.heap.size=V2 at HV6⊢;go_wp2_with (refine bA HV6.out rfl rfl _ rfl rfl ?_);refine (CT.out _).mono ?_;rintro e w7 ⟨rfl,b7⟩;have HJ7:Hid (PJ w V (aA s k nm n x0 x1 x2 x3 x4 x5 x6 x7 p a q r) aM w7):=HJ6.out.later b7;have HV7:Hid (UAt w7 V2 (aA s k nm n x0 x1 x2 x3 x4 x5 x6 x7 p JA JQ JR)):=HV6.out.below b7;clear b7 HJ6 HV6 CT
   by_cases hfit:2000<(TX.size:Int)
   .have HZ:Hid (R=(1,cP)):=by
     show _=_;rw[HE2.out,HL.out,if_neg om]
    clear HL HE2;go_wp2_with (first|(refine bA HJ7.out.2.1 rfl rfl _ rfl rfl ?_)|(refine aT HJ7.out.1.2.1 rfl (us:=aM) rfl (aG ..) rfl _ _ rfl rfl rfl ?_;intro w9 HU9 HM9));refine bodyPost_ret (aQ rfl _ _ (w.heap.size+1) (I J 1) _ rfl rfl rfl HU9) rfl ⟨tM HZ.out,HM9.2 _ _ (za _) HJ7.out.1.2.2⟩
   have HF:Hid (R=(0,⟨s,⟨k,nm,n,[x0,x1,x2,x3,x4,x5,x6,x7]⟩,p,JA,JQ,JR⟩)):=by
    show _=_;rw[HE2.out,HL.out,if_pos om]
   clear HL HE2;go_wp2_with (first|(refine bA HV7.out rfl rfl _ rfl rfl ?_)|(refine aT HJ7.out.1.2.1 rfl (us:=aA s k nm n x0 x1 x2 x3 x4 x5 x6 x7 p JA JQ JR) rfl (aG ..) rfl _ _ rfl rfl rfl ?_;intro w9 HU9 HM9));refine bodyPost_ret (aQ rfl _ _ (w.heap.size+1) (I J 0) _ rfl rfl rfl HU9) rfl ⟨tN HF.out (eT ..),HM9.2 _ _ (za _) HJ7.out.1.2.2⟩
  have HE:Hid (R=aU T.data.toList):=HR.out.trans (M8 hsc);have hemp:(⟨(jA T.data.toList).toArray⟩:ByteArray).toList.isEmpty=false:=by
   rw[tK]
   cases hl:jA T.data.toList with
   |nil=>exact absurd hl hsc
   |cons _ _=>rfl
  obtain ⟨s2,k2,n2,p2,nm2,a2,r2,q2,y0,y1,y2,y3,y4,y5,y6,y7,hu⟩:=iW _ (gL T.data.toList);have CP:Hid (∀W,CB 20 #[L T] W (H #[F (aA s2 k2 nm2 n2 y0 y1 y2 y3 y4 y5 y6 y7 p2 a2 q2 r2).toArray,I J (aU T.data.toList).1])):=fun W=>by
   have h:=zF T W om;rw[hu,eT]at h;exact h
  have HF:Hid (R=((aU T.data.toList).1,⟨s2,⟨k2,nm2,n2,[y0,y1,y2,y3,y4,y5,y6,y7]⟩,p2,a2,q2,r2⟩)):=by
   show _=_;rw[HE.out,<-hu]
  generalize (aU T.data.toList).1=c at CP HF;generalize (⟨(jA T.data.toList).toArray⟩:ByteArray)=E at CSc hemp;clear hu HE hsc HR hok;go_wp2_with fail;refine (CSc.out _).mono ?_;rintro e w4 ⟨rfl,b4⟩;have HJ4:Hid (PJ w V (aA s k nm n x0 x1 x2 x3 x4 x5 x6 x7 p a q r) aM w4):=HJ3.out.later b4;clear b4 HJ3 CSc;go_wp2_with fail;refine (CP.out _).mono ?_;rintro e w5 ⟨rfl,b5⟩;have HJ5:Hid (PJ w V (aA s k nm n x0 x1 x2 x3 x4 x5 x6 x7 p a q r) aM w5):=HJ4.out.later b5;clear b5 HJ4 CP;go_wp2_with (refine aT HJ5.out.1.2.1 rfl (us:=aA s2 k2 nm2 n2 y0 y1 y2 y3 y4 y5 y6 y7 p2 a2 q2 r2) rfl (aG ..) rfl _ _ rfl rfl rfl ?_;intro w9 HU9 HM9);refine bodyPost_ret (aQ rfl _ _ (w.heap.size+1) (I J c) _ rfl rfl rfl HU9) rfl ⟨tN HF.out (eT ..),HM9.2 _ _ (za _) HJ5.out.1.2.2⟩
