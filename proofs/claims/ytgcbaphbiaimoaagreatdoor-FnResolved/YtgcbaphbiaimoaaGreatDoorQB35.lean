/- Draw8More, Draw8Any, UrlHold, Draw9Url. -/
import Derived.Test.YtgcbaphbiaimoaaGreatDoorQB34
import Derived.Test.YtgcbaphbiaimoaaGreatDoorQB33
set_option maxHeartbeats 8000000
set_option maxRecDepth 100000
namespace Go.Proofs.YtgcbaphbiaimoaaGreatDoor
open Go.Value renaming int->I,string->L,bool->H
open Go.IntKind renaming i64->J
open Go.Obj renaming cells->Y
open _root_.Go.Act renaming put->zn
open _root_.Go.AllReadyH renaming cons->zj,nil->zk
open _root_.Go.RowKit.Below renaming refl->zl
open _root_.List renaming getElem_cons_succ->zh,getElem_cons_zero->zc,getElem_toArray->ze,length_replicate->zq,replicate->zm,setIfInBounds_toArray->za,set_cons_succ->zg,set_cons_zero->zf
open _root_.Nat renaming le_refl->zi,le_trans->zp,zero_le->zs
open _root_.Go.World renaming grownBy_alloc->zr,ownsRow_lit->zo
open _root_.Go.Proofs.Tryz
open _root_.Go.Proofs.YtgcbaphbiaimoaaGreatDoor.Tryz
section
open Go.RowKit
attribute [local go_sem↓] Go.wp_at_zero Go.wp_at_succ
theorem Cur.moved{D B C:Nat}{ao:Option Addr}{len cap:Nat}{W W':World}(h:Cur D B ao len cap W)(hC:B<C)(hM:oM C W W'):Cur D B ao len cap W':=
 have hb:=hM.2 C W (zi _) (zl _ _)
 h.keep (hb.block B hC) fun k hk=>hb.block k (by have:=h.le;omega)
theorem JX{C:Nat}{w W W':World}{row:Option Nat}(h:w.grownBy W row)(hC:w.heap.size<=C)(hM:oM C W W'):w.grownBy W' row:=
 have hb:=hM.2 _ W hC (zl _ _)
 ⟨hb.os.trans h.os,hb.tape.trans h.tape,hb.output.trans h.output,zp h.size hb.size,fun k hk hr=>(hb.block k hk).trans (h.block k hk hr)⟩
theorem UAt.grown{W W':World}{U B:Nat}{vs:List Value}(h:UAt W U vs)(hg:W.grownBy W' (some B))(hne:U≠B):UAt W' U vs:=by
 have hs:=hg.block U h.2.2 (by intro h;cases h;exact hne rfl);refine ⟨fun j v hv=>(World.cell?_of_block (w:=W) (a:=⟨U,j,none⟩) hs).trans (h.1 j v hv),fun j=>(World.frozen?_of_block (w:=W) (a:=⟨U,j,none⟩) hs).trans (h.2.1 j),Nat.lt_of_lt_of_le h.2.2 hg.size⟩
def SD(D B:Nat)(ao:Option Addr)(len cap:Nat)(w:World)(U:Nat)(row:List Value)(W:World):Prop:=
 Cur D B ao len cap W/\w.grownBy W (some B)/\(∃rr:List Value,rr.length=16/\UAt W w.heap.size rr)/\UAt W U row/\w.heap.size<U/\B<w.heap.size
section
variable {D B:Nat} {ao:Option Addr} {len cap:Nat} {w:World} {U:Nat} {row:List Value} {W W':World}
theorem SD.below(h:SD D B ao len cap w U row W)(hb:Below W.heap.size W W'):SD D B ao len cap w U row W':=by
 obtain ⟨h1,h2,⟨rr,hl,h3⟩,h4,h5⟩:=h;exact ⟨h1.below fun k hk=>hb.block k hk,rA h2 hb,⟨rr,hl,h3.below hb⟩,h4.below hb,h5⟩
theorem SD.drew(h:SD D B ao len cap w U row W):SD D B ao len cap w U row W.drew:=⟨h.1,⟨h.2.1.os,h.2.1.tape,h.2.1.output,h.2.1.size,h.2.1.block⟩,h.2.2⟩
theorem SD.grown(h:SD D B ao len cap w U row W)(hc:Cur D B ao len cap W')(hg:W.grownBy W' (some B)):SD D B ao len cap w U row W':=by
 obtain ⟨h1,h2,⟨rr,hl,h3⟩,h4,h5,h6⟩:=h;exact ⟨hc,aJ h2 hg,⟨rr,hl,h3.grown hg om⟩,h4.grown hg om,h5,h6⟩
theorem SD.alloc(h:SD D B ao len cap w U row W)(o:Obj):SD D B ao len cap w U row (W.alloc o):=h.below ((zl _ _).alloc (zi _) o)
theorem SD.moved{row':List Value}(h:SD D B ao len cap w U row W)(hM:oM U W W')(hU:UAt W' U row'):SD D B ao len cap w U row' W':=by
 obtain ⟨h1,h2,⟨rr,hl,h3⟩,h4,h5,h6⟩:=h;exact ⟨h1.moved om hM,JX h2 om hM,⟨rr,hl,hM.1 _ _ om h3⟩,hU,h5,h6⟩
theorem SD.res{rr:List Value}(h:SD D B ao len cap w U row W)(hM:oM w.heap.size W W')(hl:rr.length=16)(hU:UAt W' w.heap.size rr):SD D B ao len cap w U row W':=by
 obtain ⟨h1,h2,_,h4,h5,h6⟩:=h;exact ⟨h1.moved h6 hM,JX h2 (zi _) hM,⟨rr,hl,hU⟩,hM.1 _ _ om h4,h5,h6⟩
theorem SD.set(h:SD D B ao len cap w U row W)(j:Nat)(hj:j<row.length)(v:Value):SD D B ao len cap w U (row.set j v) (W.setCell ⟨U,j,none⟩ v):=by
 obtain ⟨h1,h2,⟨rr,hl,h3⟩,h4,h5,h6⟩:=h;exact ⟨h1.set om v,bK h2 om v,⟨rr,hl,h3.other om j v⟩,h4.set j hj v,h5,h6⟩
end
theorem B8(l:ByteArray)(h:l.size<=3000):(gK l).size<=100000/\(gF l).size<=1048576:=by
 obtain ⟨h1,h2⟩:=iM (p:=fun c=>c !=63) l;have h3:(kY l).size<=3000:=by unfold kY;omega
 have h4:(iC l).size<=3000:=by unfold iC;omega
 have h5:(gZ (kY l)).size<=3000:=by
  unfold gZ;split
  .decide
  exact h3
 constructor
 .unfold gK
  refine zp (rX _) (zp (kO _ _) ?_);rw[cR,gU];have e:(gZ (kY l)).data.toList.length=(gZ (kY l)).size:=by simp
  omega
 unfold gF;refine zp (kO _ _) ?_;rw[ByteArray.size_extract];omega
theorem l8Url(D B:Nat)(ao:Option Addr)(len cap:Nat)(w:World)(hcur:Cur D B ao len cap w):Calls prog 69 #[.pointer (some ⟨B,0,none⟩)] w fun e w'=> ∃(s k n p:Int) (nm a r:ByteArray) (q:Bool) (x0 x1 x2 x3 x4 x5 x6 x7:Int),(nm.size<=1048576/\a.size<=100000/\r.size<=1048576)/\e=.returned (.agg (aA s k nm n x0 x1 x2 x3 x4 x5 x6 x7 p a q r).toArray)/\Cur D B ao len cap w'/\w.grownBy w' (some B):=by
 have hB:=hcur.lt;obtain ⟨O,hO⟩: ∃O,O=w.alloc (Y #[I J 0,I J 0,L ⟨#[]⟩,I J 0,I J 0,I J 0,I J 0,I J 0,I J 0,I J 0,I J 0,I J 0,I J 0,L ⟨#[]⟩,H false,L ⟨#[]⟩] 28):=⟨_,rfl⟩;have HC:Hid (Cur D B ao len cap O):=by rw[hO];exact hcur.alloc _
 have HG:Hid (w.grownBy O (some B)):=by rw[hO];exact zr w _ _
 have HU:Hid (UAt O w.heap.size aM):=by rw[hO];exact UAt.new w _ _
 clear hcur;go_enter func69,ntmps69;go_wp2_with fail;rw[<-hO];refine (fC 2 _ _ _ _ _ _ om om HC.out).mono ?_;rintro e wa ⟨y,hy0,hy1,rfl,ca,ga⟩;have CA:Hid (Cur D B ao len cap wa):=ca;have GA:Hid (w.grownBy wa (some B)):=aJ HG.out ga;have UA:Hid (UAt wa w.heap.size aM):=HU.out.grown ga om;clear ca ga HC HG HU hO;go_wp2_with fail;refine (A9 _ _ _ _ _ _ CA.out).mono ?_;rintro e wb ⟨k,n,nm,x0,x1,x2,x3,x4,x5,x6,x7,hs,rfl,cb,gb⟩;have SB:Hid (SD D B ao len cap w wb.heap.size (aA 0 0 ⟨#[]⟩ 0 0 0 0 0 0 0 0 0 0 ⟨#[]⟩ false ⟨#[]⟩) (wb.alloc (Y #[I J 0,I J 0,L ⟨#[]⟩,I J 0,I J 0,I J 0,I J 0,I J 0,I J 0,I J 0,I J 0,I J 0,I J 0,L ⟨#[]⟩,H false,L ⟨#[]⟩] 28))):=
  have hu:=UA.out.grown gb om
  ⟨cb.alloc _,cZ (aJ GA.out gb) _,⟨_,rfl,hu.below ((zl _ _).alloc (zi _) _)⟩,UAt.new wb _ _,hu.2.2,hB⟩
 clear cb gb CA GA UA
 go_upto_region 2 with (refine aT SB.out.2.2.2.1 rfl (us:=aA (1+y) k nm n x0 x1 x2 x3 x4 x5 x6 x7 0 ⟨#[]⟩ false ⟨#[]⟩) rfl (aG ..) rfl _ _ rfl rfl rfl ?_;intro w5 HU5 HM5)
 have S5:Hid (SD D B ao len cap w wb.heap.size (aA (1+y) k nm n x0 x1 x2 x3 x4 x5 x6 x7 0 ⟨#[]⟩ false ⟨#[]⟩) w5):=SB.out.moved HM5 HU5;clear HU5 HM5 SB;generalize wb.heap.size=U at S5⊢;generalize 1+y=s at S5⊢;have hBw:B<w5.heap.size:=S5.out.1.lt;have CD:Hid (∀W,CS 37 #[I J s] W (I J (bS s))):=fun W=>jM s W
 generalize bS s=d at CD;refine wp_region_held_drew (S:=fun W=> ∃p:Int,SD D B ao len cap w U (aA s k nm n x0 x1 x2 x3 x4 x5 x6 x7 p ⟨#[]⟩ false ⟨#[]⟩) W) kr ⟨0,S5.out.drew⟩ (fun h0=> ?_);clear S5;refine wpAnyH_take (i:=0) (v:= ?_) rfl kr kr kr (fun _ _ _ h=>h) (Or.inl ⟨by rfl,fun W hW=> ?_⟩) h0 ?_;rotate_left
 .clear hW
  go_simp
  try with_reducible rfl
 simp only[zn,ze,zc,za,zf,zg];refine wpAnyH_take (i:=1) (v:= ?_) rfl kr kr kr (fun _ _ _ h=>h) (Or.inl ⟨by rfl,fun W hW=> ?_⟩) h0 ?_;rotate_left
 .clear hW
  go_simp
  try with_reducible rfl
 simp only[zn,ze,zc,zh,za,zf,zg];refine wpAnyH_take (i:=2) (v:= ?_) rfl kr kr kr (fun _ _ _ h=>h) (Or.inl ⟨by rfl,fun W hW=> ?_⟩) h0 ?_;rotate_left
 .have c:=hW.choose_spec.2.2.2.1.1 0 _ rfl
  go_simp
  try with_reducible rfl
 simp only[zn,ze,zc,zh,za,zf,zg];refine wpAnyH_take (i:=4) (v:= ?_) rfl kr kr kr (fun _ _ _ h=>h) (Or.inl ⟨by rfl,fun W hW=> ?_⟩) h0 ?_;rotate_left
 .clear hW
  go_simp
  try with_reducible rfl
 simp only[zn,ze,zc,zh,za,zf,zg];refine wpAnyH_take (i:=5) (v:= ?_) rfl kr kr kr (fun _ _ _ h=>h) (Or.inl ⟨by rfl,fun W hW=> ?_⟩) h0 ?_;rotate_left
 .have c:=hW.choose_spec.2.2.2.1.1 0 _ rfl
  go_simp
  try with_reducible rfl
 simp only[zn,ze,zc,zh,za,zf,zg];refine wpAnyH_ready (rs:=[3]) kr j2 (zj rfl (fun K hK=> ?_) zk);go_simp;go_wp2_with (go_at_call 37;refine (CD.out _).mono ?_;rintro e wq ⟨rfl,rfl⟩);refine hK.out _ _ h0 (fun h1=> ?_);clear hK K h1;refine wpAnyH_ready (rs:=[6]) kr j2 (zj rfl (fun K hK=> ?_) zk);go_simp;go_wp2_with (go_at_call 37;refine (CD.out _).mono ?_;rintro e wq ⟨rfl,rfl⟩);refine hK.out _ _ h0 (fun h1=> ?_);clear hK K h1;refine wpAnyH_ready (rs:=[7]) kr j2 (zj rfl (fun K hK=> ?_) zk);go_simp;obtain ⟨p0,g0⟩:=h0;refine hK.out _ _ ⟨p0,g0.alloc _⟩ (fun h1=> ?_);clear hK K h1;refine wpAnyH_ready (rs:=[8]) kr j2 (zj rfl (fun K hK=> ?_) zk);go_simp;go_wp2_with (go_at_call 77;refine (PE 7 _ 7 0 _ _ _ _ _ _ _ om om (g0.alloc _).1 (zo w5 _ 7 (zs _) de rfl) om rfl).mono ?_;rintro e wc ⟨z,rfl,cc,gc⟩);have g1:=(g0.alloc _).grown cc gc;refine hK.out _ _ ⟨p0,g1⟩ (fun h1=> ?_);clear hK K g0 cc gc;refine wpAnyH_take (i:=9) (v:= ?_) rfl kr kr kr (fun _ _ _ h=>h) (Or.inl ⟨by rfl,fun W hW=> ?_⟩) h1 ?_;rotate_left
 .clear hW
  go_simp
  try with_reducible rfl
 simp only[zn,ze,zc,zh,za,zf,zg];have c12:=g1.2.2.2.1.1 12 _ rfl;have f12:=g1.2.2.2.1.2.1 12;refine wpAnyH_ready (rs:=[10]) kr j2 (zj rfl (fun K hK=> ?_) zk);go_simp;refine hK.out _ _ ⟨z,g1.set 12 (by show 12<16;decide) (I J z)⟩ (fun h2=> ?_);clear hK K h1 c12 f12;refine wpAnyH_done kr ?_ _;have S6:Hid (SD D B ao len cap w U (aA s k nm n x0 x1 x2 x3 x4 x5 x6 x7 z ⟨#[]⟩ false ⟨#[]⟩) (wc.setCell ⟨U,12,none⟩ (I J z))):=g1.set 12 (by show 12<16;decide) (I J z);clear g1 h2;generalize wc.setCell ⟨U,12,none⟩ (I J z)=w6 at S6⊢
 go_upto_region 3 with fail
 refine wp_region_held_drew (S:=SD D B ao len cap w U (aA s k nm n x0 x1 x2 x3 x4 x5 x6 x7 z ⟨#[]⟩ false ⟨#[]⟩)) kr S6.out.drew (fun h0=> ?_);clear S6;refine wpAnyH_take (i:=0) (v:=.agg (aA s k nm n x0 x1 x2 x3 x4 x5 x6 x7 z ⟨#[]⟩ false ⟨#[]⟩).toArray) rfl kr kr kr (fun _ _ _ h=>h) (yieldsIf_load_mid (by rfl) _ _ rfl U 0 rfl (aA s k nm n x0 x1 x2 x3 x4 x5 x6 x7 z ⟨#[]⟩ false ⟨#[]⟩) _ (fun W hW=>hW.2.2.2.1.range 0 _ (fun j v hv=>by rw[Nat.zero_add];exact hv)) underlying28 rfl infoUrl) h0 ?_;simp only[zn,ze,zc,za,zf,zg];refine wpAnyH_take (i:=1) (v:= ?_) rfl kr kr kr (fun _ _ _ h=>h) (Or.inl ⟨by rfl,fun W hW=> ?_⟩) h0 ?_;rotate_left
 .clear hW
  go_simp
  try with_reducible rfl
 simp only[zn,ze,zc,zh,za,zf,zg];refine wpAnyH_ready (rs:=[2]) kr j2 (zj rfl (fun K hK=> ?_) zk);go_simp;go_wp2_with (go_at_call 110;refine (RK _ _ _ _ _ _ h0.1).mono ?_;rintro e wq ⟨l,hl,rfl,cq,gq⟩);have g1:=h0.grown cq gq;refine hK.out _ _ g1 (fun h1=> ?_);clear hK K h1 h0 cq gq;refine wpAnyH_ready (rs:=[3]) kr j2 (zj rfl (fun K hK=> ?_) zk);go_simp;go_wp2_with (go_at_call 59;refine j6 (zE s k n z nm ⟨#[]⟩ ⟨#[]⟩ false x0 x1 x2 x3 x4 x5 x6 x7 l _ om) fun wr hbr=>?_);have g2:=g1.below hbr;refine hK.out _ _ g2 (fun h1=> ?_);clear hK K h1 g1 hbr;obtain ⟨hA,hR⟩:=B8 l hl;generalize gK l=A at hA⊢;generalize gF l=R at hR⊢;generalize kZ l=Q at⊢;obtain ⟨rr,hrl,hN⟩:=g2.2.2.1;refine wpAnyH_ready (rs:=[4]) kr j2 (zj rfl (fun K hK=> ?_) zk);rw[if_pos (by rfl)];refine wp_store_mid _ _ _ rfl w.heap.size 0 (aA s k nm n x0 x1 x2 x3 x4 x5 x6 x7 z A Q R).toArray rfl rfl (hN.there 0 16 (by rw[hrl];decide)) infoUrl (aG ..) ?_;have hM:=bW (C:=w.heap.size) (aA s k nm n x0 x1 x2 x3 x4 x5 x6 x7 z A Q R).toArray.toList 0 wr;have hU:=fZ (us:=aA s k nm n x0 x1 x2 x3 x4 x5 x6 x7 z A Q R) hN hrl rfl;have g3:=g2.res hM rfl hU;generalize wr.setCells w.heap.size 0 (aA s k nm n x0 x1 x2 x3 x4 x5 x6 x7 z A Q R).toArray.toList=w9 at hM hU g3⊢;refine hK.out _ _ g3 (fun h2=> ?_);clear hK K h2 g2 hM hN;refine wpAnyH_done kr ?_ _;simp only[zn];go_wp2_with fail;refine bodyPost_ret (bX rfl _ _ w.heap.size (aA s k nm n x0 x1 x2 x3 x4 x5 x6 x7 z A Q R) rfl rfl hU) rfl ⟨s,k,n,z,nm,A,R,Q,x0,x1,x2,x3,x4,x5,x6,x7,⟨hs,hA,hR⟩,rfl,g3.1,g3.2.1⟩
theorem l8Any(D B:Nat)(ao:Option Addr)(len cap:Nat)(w:World)(hcur:Cur D B ao len cap w):Calls prog 31 #[.pointer (some ⟨B,0,none⟩)] w fun e w'=> ∃(s k n p:Int) (nm a r:ByteArray) (q:Bool) (x0 x1 x2 x3 x4 x5 x6 x7:Int),(nm.size<=1048576/\a.size<=100000/\r.size<=1048576)/\e=.returned (.agg (aA s k nm n x0 x1 x2 x3 x4 x5 x6 x7 p a q r).toArray)/\Cur D B ao len cap w'/\w.grownBy w' (some B):=by
 have hB:=hcur.lt;obtain ⟨O,hO⟩: ∃O,O=w.alloc (Y #[I J 0,I J 0,L ⟨#[]⟩,I J 0,I J 0,I J 0,I J 0,I J 0,I J 0,I J 0,I J 0,I J 0,I J 0,L ⟨#[]⟩,H false,L ⟨#[]⟩] 28):=⟨_,rfl⟩;have HC:Hid (Cur D B ao len cap O):=by rw[hO];exact hcur.alloc _
 have HG:Hid (w.grownBy O (some B)):=by rw[hO];exact zr w _ _
 have HU:Hid (UAt O w.heap.size aM):=by rw[hO];exact UAt.new w _ _
 clear hcur;go_enter func31,ntmps31;go_wp2_with fail;rw[<-hO];refine (l8Url _ _ _ _ _ _ HC.out).mono ?_;rintro e wb ⟨s,k,n,p,nm,a,r,q,x0,x1,x2,x3,x4,x5,x6,x7,⟨hs,ha,hr⟩,rfl,cb,gb⟩;have SB:Hid (SD D B ao len cap w wb.heap.size (aA 0 0 ⟨#[]⟩ 0 0 0 0 0 0 0 0 0 0 ⟨#[]⟩ false ⟨#[]⟩) (wb.alloc (Y #[I J 0,I J 0,L ⟨#[]⟩,I J 0,I J 0,I J 0,I J 0,I J 0,I J 0,I J 0,I J 0,I J 0,I J 0,L ⟨#[]⟩,H false,L ⟨#[]⟩] 28))):=
  have hu:=HU.out.grown gb om
  ⟨cb.alloc _,cZ (aJ HG.out gb) _,⟨_,rfl,hu.below ((zl _ _).alloc (zi _) _)⟩,UAt.new wb _ _,hu.2.2,hB⟩
 clear cb gb HC HG HU hO
 go_upto_region 2 with (refine aT SB.out.2.2.2.1 rfl (us:=aA s k nm n x0 x1 x2 x3 x4 x5 x6 x7 p a q r) rfl (aG ..) rfl _ _ rfl rfl rfl ?_;intro w5 HU5 HM5)
 have S5:Hid (SD D B ao len cap w wb.heap.size (aA s k nm n x0 x1 x2 x3 x4 x5 x6 x7 p a q r) w5):=SB.out.moved HM5 HU5;clear HU5 HM5 SB;generalize wb.heap.size=U at S5⊢;go_wp2_with fail;refine (fC 16 _ _ _ _ _ _ om om S5.out.1).mono ?_;rintro e w6 ⟨y,hy0,hy1,rfl,c6,g6⟩;have S6:Hid (SD D B ao len cap w U (aA s k nm n x0 x1 x2 x3 x4 x5 x6 x7 p a q r) w6):=S5.out.grown c6 g6;have hB6:=S6.out.1.lt;clear c6 g6 S5
 by_cases y0:y=0
 .subst y0
  go_wp2_with fail;refine (fC 4 _ _ _ _ _ _ om om S6.out.1).mono ?_;rintro e wc ⟨z,hz0,hz1,rfl,cc,gc⟩;have gm:=(S6.out).grown cc gc;have c:=gm.2.2.2.1.1 0 _ rfl;have f:=gm.2.2.2.1.2.1 0;have GG:Hid (SD D B ao len cap w U (aA z k nm n x0 x1 x2 x3 x4 x5 x6 x7 p a q r) (wc.setCell ⟨U,0,none⟩ (I J z))):=gm.set 0 (by show 0<16;decide) (I J z);clear cc gc gm;obtain ⟨rr,hrl,hN⟩:=GG.out.2.2.1;have HN:Hid (UAt (wc.setCell ⟨U,0,none⟩ (I J z)) w.heap.size rr):=hN;clear hN;go_wp2_with (first|(refine bA GG.out.2.2.2.1 rfl rfl _ rfl rfl ?_)|(refine aT HN.out hrl (us:=(aA z k nm n x0 x1 x2 x3 x4 x5 x6 x7 p a q r)) rfl (aG ..) rfl _ _ rfl rfl rfl ?_;intro w9 HU9 HM9));have g9:=GG.out.res HM9 rfl HU9;refine bodyPost_ret (bX rfl _ _ w.heap.size (aA z k nm n x0 x1 x2 x3 x4 x5 x6 x7 p a q r) rfl rfl HU9) rfl ⟨_,_,_,_,_,_,_,_,_,_,_,_,_,_,_,_,⟨hs,ha,hr⟩,rfl,g9.1,g9.2.1⟩
 have q0:(y==0)=false:=beq_eq_false_iff_ne.2 y0
 by_cases y1:y=1
 .subst y1
  clear q0 y0;go_wp2_with fail;refine (PE 3 _ 3 0 _ _ _ _ _ _ _ om om (S6.out.alloc _).1 (zo w6 _ 3 (zs _) de rfl) om rfl).mono ?_;rintro e wc ⟨z,rfl,cc,gc⟩;have gm:=(S6.out.alloc _).grown cc gc;have c:=gm.2.2.2.1.1 12 _ rfl;have f:=gm.2.2.2.1.2.1 12;have GG:Hid (SD D B ao len cap w U (aA s k nm n x0 x1 x2 x3 x4 x5 x6 x7 z a q r) (wc.setCell ⟨U,12,none⟩ (I J z))):=gm.set 12 (by show 12<16;decide) (I J z);clear cc gc gm;obtain ⟨rr,hrl,hN⟩:=GG.out.2.2.1;have HN:Hid (UAt (wc.setCell ⟨U,12,none⟩ (I J z)) w.heap.size rr):=hN;clear hN;go_wp2_with (first|(refine bA GG.out.2.2.2.1 rfl rfl _ rfl rfl ?_)|(refine aT HN.out hrl (us:=(aA s k nm n x0 x1 x2 x3 x4 x5 x6 x7 z a q r)) rfl (aG ..) rfl _ _ rfl rfl rfl ?_;intro w9 HU9 HM9));have g9:=GG.out.res HM9 rfl HU9;refine bodyPost_ret (bX rfl _ _ w.heap.size (aA s k nm n x0 x1 x2 x3 x4 x5 x6 x7 z a q r) rfl rfl HU9) rfl ⟨_,_,_,_,_,_,_,_,_,_,_,_,_,_,_,_,⟨hs,ha,hr⟩,rfl,g9.1,g9.2.1⟩
 have q1:(y==1)=false:=beq_eq_false_iff_ne.2 y1
 by_cases y2:y=2
 .subst y2
  clear q0 y0 q1 y1;go_wp2_with fail;refine (oE 20 7 _ 7 0 _ _ _ _ _ _ _ om om (S6.out.alloc _).1 (zo w6 _ 7 (zs _) de rfl) om de).mono ?_;rintro e wc ⟨z,hz,rfl,cc,gc⟩;have gm:=(S6.out.alloc _).grown cc gc;have c:=gm.2.2.2.1.1 13 _ rfl;have f:=gm.2.2.2.1.2.1 13;have GG:Hid (SD D B ao len cap w U (aA s k nm n x0 x1 x2 x3 x4 x5 x6 x7 p z q r) (wc.setCell ⟨U,13,none⟩ (L z))):=gm.set 13 (by show 13<16;decide) (L z);clear cc gc gm;obtain ⟨rr,hrl,hN⟩:=GG.out.2.2.1;have HN:Hid (UAt (wc.setCell ⟨U,13,none⟩ (L z)) w.heap.size rr):=hN;clear hN;go_wp2_with (first|(refine bA GG.out.2.2.2.1 rfl rfl _ rfl rfl ?_)|(refine aT HN.out hrl (us:=(aA s k nm n x0 x1 x2 x3 x4 x5 x6 x7 p z q r)) rfl (aG ..) rfl _ _ rfl rfl rfl ?_;intro w9 HU9 HM9));have g9:=GG.out.res HM9 rfl HU9;refine bodyPost_ret (bX rfl _ _ w.heap.size (aA s k nm n x0 x1 x2 x3 x4 x5 x6 x7 p z q r) rfl rfl HU9) rfl ⟨_,_,_,_,_,_,_,_,_,_,_,_,_,_,_,_,⟨hs,om,hr⟩,rfl,g9.1,g9.2.1⟩
 have q2:(y==2)=false:=beq_eq_false_iff_ne.2 y2
 by_cases y3:y=3
 .subst y3
  clear q0 y0 q1 y1 q2 y2;go_wp2_with fail;refine (RH _ _ _ _ _ _ S6.out.1).mono ?_;rintro e wc ⟨z,hz,rfl,cc,gc⟩;have gm:=(S6.out).grown cc gc;have c:=gm.2.2.2.1.1 15 _ rfl;have f:=gm.2.2.2.1.2.1 15;have GG:Hid (SD D B ao len cap w U (aA s k nm n x0 x1 x2 x3 x4 x5 x6 x7 p a q z) (wc.setCell ⟨U,15,none⟩ (L z))):=gm.set 15 (by show 15<16;decide) (L z);clear cc gc gm;obtain ⟨rr,hrl,hN⟩:=GG.out.2.2.1;have HN:Hid (UAt (wc.setCell ⟨U,15,none⟩ (L z)) w.heap.size rr):=hN;clear hN;go_wp2_with (first|(refine bA GG.out.2.2.2.1 rfl rfl _ rfl rfl ?_)|(refine aT HN.out hrl (us:=(aA s k nm n x0 x1 x2 x3 x4 x5 x6 x7 p a q z)) rfl (aG ..) rfl _ _ rfl rfl rfl ?_;intro w9 HU9 HM9));have g9:=GG.out.res HM9 rfl HU9;refine bodyPost_ret (bX rfl _ _ w.heap.size (aA s k nm n x0 x1 x2 x3 x4 x5 x6 x7 p a q z) rfl rfl HU9) rfl ⟨_,_,_,_,_,_,_,_,_,_,_,_,_,_,_,_,⟨hs,ha,om⟩,rfl,g9.1,g9.2.1⟩
 have q3:(y==3)=false:=beq_eq_false_iff_ne.2 y3
 by_cases y4:y=4
 .subst y4
  clear q0 y0 q1 y1 q2 y2 q3 y3;have c:=S6.out.2.2.2.1.1 14 _ rfl;have f:=S6.out.2.2.2.1.2.1 14;have GG:Hid (SD D B ao len cap w U (aA s k nm n x0 x1 x2 x3 x4 x5 x6 x7 p a (!q) r) (w6.setCell ⟨U,14,none⟩ (H (!q)))):=S6.out.set 14 (by show 14<16;decide) (H (!q));obtain ⟨rr,hrl,hN⟩:=GG.out.2.2.1;have HN:Hid (UAt (w6.setCell ⟨U,14,none⟩ (H (!q))) w.heap.size rr):=hN;clear hN;go_wp2_with (first|(refine bA GG.out.2.2.2.1 rfl rfl _ rfl rfl ?_)|(refine aT HN.out hrl (us:=(aA s k nm n x0 x1 x2 x3 x4 x5 x6 x7 p a (!q) r)) rfl (aG ..) rfl _ _ rfl rfl rfl ?_;intro w9 HU9 HM9));have g9:=GG.out.res HM9 rfl HU9;refine bodyPost_ret (bX rfl _ _ w.heap.size (aA s k nm n x0 x1 x2 x3 x4 x5 x6 x7 p a (!q) r) rfl rfl HU9) rfl ⟨_,_,_,_,_,_,_,_,_,_,_,_,_,_,_,_,⟨hs,ha,hr⟩,rfl,g9.1,g9.2.1⟩
 have q4:(y==4)=false:=beq_eq_false_iff_ne.2 y4
 by_cases y5:y=5
 .subst y5
  clear q0 y0 q1 y1 q2 y2 q3 y3 q4 y4;go_wp2_with fail;refine (l6Any _ _ _ _ _ _ S6.out.1).mono ?_;rintro e wc ⟨k',n',nm',z0,z1,z2,z3,z4,z5,z6,z7,hs',rfl,cc,gc⟩;have gm:=S6.out.grown cc gc;clear cc gc
  go_upto_region 15 with (refine jN gm.2.2.2.1 1 (by show 1+11<=16;decide) (us:=bD k' nm' n' z0 z1 z2 z3 z4 z5 z6 z7) rfl (gY ..) rfl _ _ rfl rfl rfl ?_;intro w7 HU7 HM7)
  have GG:Hid (SD D B ao len cap w U (aA s k' nm' n' z0 z1 z2 z3 z4 z5 z6 z7 p a q r) w7):=gm.moved HM7 HU7;clear gm HM7 HU7;obtain ⟨rr,hrl,hN⟩:=GG.out.2.2.1;have HN:Hid (UAt w7 w.heap.size rr):=hN;clear hN;go_wp2_with (first|(refine bA GG.out.2.2.2.1 rfl rfl _ rfl rfl ?_)|(refine aT HN.out hrl (us:=(aA s k' nm' n' z0 z1 z2 z3 z4 z5 z6 z7 p a q r)) rfl (aG ..) rfl _ _ rfl rfl rfl ?_;intro w9 HU9 HM9));have g9:=GG.out.res HM9 rfl HU9;refine bodyPost_ret (bX rfl _ _ w.heap.size (aA s k' nm' n' z0 z1 z2 z3 z4 z5 z6 z7 p a q r) rfl rfl HU9) rfl ⟨_,_,_,_,_,_,_,_,_,_,_,_,_,_,_,_,⟨hs',ha,hr⟩,rfl,g9.1,g9.2.1⟩
 have q5:(y==5)=false:=beq_eq_false_iff_ne.2 y5;have GG:=S6;obtain ⟨rr,hrl,hN⟩:=GG.out.2.2.1;have HN:Hid (UAt w6 w.heap.size rr):=hN;clear hN;go_wp2_with (first|(refine bA GG.out.2.2.2.1 rfl rfl _ rfl rfl ?_)|(refine aT HN.out hrl (us:=(aA s k nm n x0 x1 x2 x3 x4 x5 x6 x7 p a q r)) rfl (aG ..) rfl _ _ rfl rfl rfl ?_;intro w9 HU9 HM9));have g9:=GG.out.res HM9 rfl HU9;refine bodyPost_ret (bX rfl _ _ w.heap.size (aA s k nm n x0 x1 x2 x3 x4 x5 x6 x7 p a q r) rfl rfl HU9) rfl ⟨_,_,_,_,_,_,_,_,_,_,_,_,_,_,_,_,⟨hs,ha,hr⟩,rfl,g9.1,g9.2.1⟩
end
section
open Go.RowKit
def PV(w:World)(V:Nat)(row:List Value)(W:World):Prop:=UAt W V row/\Below w.heap.size w W
theorem PV.later{w:World}{V:Nat}{row:List Value}{W W':World}(h:PV w V row W)(hb:Below W.heap.size W W'):PV w V row W':=⟨h.1.below hb,h.2.trans (hb.mono h.2.size)⟩
theorem PV.drew{w:World}{V:Nat}{row:List Value}{W:World}(h:PV w V row W):PV w V row W.drew:=⟨h.1,h.2.drew⟩
end
section
open Go.RowKit
set_option linter.unusedVariables false
def PT(w:World)(V V2:Nat)(r1 r2:List Value)(W:World):Prop:=UAt W V r1/\UAt W V2 r2/\Below w.heap.size w W/\w.heap.size<=V/\V<V2
theorem PT.later{w:World}{V V2:Nat}{r1 r2:List Value}{W W':World}(h:PT w V V2 r1 r2 W)(hb:Below W.heap.size W W'):PT w V V2 r1 r2 W':=⟨h.1.below hb,h.2.1.below hb,h.2.2.1.trans (hb.mono h.2.2.1.size),h.2.2.2⟩
theorem PT.drew{w:World}{V V2:Nat}{r1 r2:List Value}{W:World}(h:PT w V V2 r1 r2 W):PT w V V2 r1 r2 W.drew:=⟨h.1,h.2.1,h.2.2.1.drew,h.2.2.2⟩
theorem PT.alloc{w:World}{V V2:Nat}{r1 r2:List Value}{W:World}(h:PT w V V2 r1 r2 W)(o:Obj):PT w V V2 r1 r2 (W.alloc o):=h.later ((zl _ _).alloc (zi _) o)
theorem PT.moved{w:World}{V V2 C:Nat}{r1 r2:List Value}{W W':World}(h:PT w V V2 r1 r2 W)(hC:V2<C)(hM:oM C W W'):PT w V V2 r1 r2 W':=by
 obtain ⟨h1,h2,h3,h4,h5⟩:=h;exact ⟨hM.1 _ _ om h1,hM.1 _ _ om h2,hM.2 _ _ om h3,h4,h5⟩
def PD(D B:Nat)(ao:Option Addr)(len cap:Nat)(w:World)(U:Nat)(row:List Value)(W:World):Prop:=Cur D B ao len cap W/\PU w aM W/\UAt W U row/\w.heap.size<B/\B<U
theorem PD.grown{D B:Nat}{ao:Option Addr}{len cap:Nat}{w:World}{U:Nat}{row:List Value}{W W':World}(h:PD D B ao len cap w U row W)(hc:Cur D B ao len cap W')(hg:W.grownBy W' (some B)):PD D B ao len cap w U row W':=by
 obtain ⟨h1,h2,h3,h4,h5⟩:=h;exact ⟨hc,⟨h2.1.grown hg om,h2.2.grown hg h2.2.size (fun k hk=>by cases hk;omega)⟩,h3.grown hg om,h4,h5⟩
theorem XG(ao:Option Addr)(len cap:Nat)(w:World)(hl:len<=1048576)(hcode:eI w.heap.size w ao len):Calls prog 21 #[.slice ao len cap] w fun e w'=> ∃(s k n p:Int) (nm a r:ByteArray) (q:Bool) (x0 x1 x2 x3 x4 x5 x6 x7:Int) (z:ByteArray),(nm.size<=1048576/\a.size<=100000/\r.size<=1048576/\z.size<=8388608)/\e=.returned (.tuple #[.agg (aA s k nm n x0 x1 x2 x3 x4 x5 x6 x7 p a q r).toArray,L z])/\Below w.heap.size w w':=by
 obtain ⟨i0,hi,hz0,hz1,hz2⟩:=info_parts info5;have HI:Hid (prog.info? 5=some i0/\i0.zero=some (.int .u8 0)/\i0.size=1/\i0.bytes=1):=⟨hi,hz0,hz1,hz2⟩;clear hi hz0 hz1 hz2;obtain ⟨O,hO⟩: ∃O,O=w.alloc (Y #[I J 0,I J 0,L ⟨#[]⟩,I J 0,I J 0,I J 0,I J 0,I J 0,I J 0,I J 0,I J 0,I J 0,I J 0,L ⟨#[]⟩,H false,L ⟨#[]⟩] 28):=⟨_,rfl⟩;have HCO:Hid (eI O.heap.size O ao len):=by rw[hO];exact hcode.later ((zl _ w).alloc (zi _) _)
 have HP:Hid (PU w aM O):=by rw[hO];exact PU.new w _ _
 clear hcode;go_enter func21,ntmps21;go_wp2_with fail;rw[<-hO];refine (Le _ _ _ _ hl HCO.out).mono ?_;rintro e wa ⟨B,rfl,hBw,ca,ba⟩;have CA:Hid (Cur O.heap.size B ao len cap wa):=ca;have PA:Hid (PU w aM wa):=HP.out.later ba;have hBg:w.heap.size<B:=by have:=HP.out.1.2.2;omega
 clear ca ba HCO HP hO;go_wp2_with fail;refine (l8Any _ _ _ _ _ _ CA.out).mono ?_;rintro e wb ⟨s,k,n,p,nm,a,r,q,x0,x1,x2,x3,x4,x5,x6,x7,⟨hs,ha,hr⟩,rfl,cb,gb⟩;have PB:Hid (PU w aM wb):=⟨PA.out.1.grown gb om,PA.out.2.grown gb PA.out.2.size (fun k hk=>by cases hk;omega)⟩;have CB:Hid (Cur O.heap.size B ao len cap wb):=cb;have hBb:B<wb.heap.size:=cb.lt;clear cb gb CA PA;have P2a:Hid (PU w aM (wb.alloc (Y #[I J 0,I J 0,L ⟨#[]⟩,I J 0,I J 0,I J 0,I J 0,I J 0,I J 0,I J 0,I J 0,I J 0,I J 0,L ⟨#[]⟩,H false,L ⟨#[]⟩] 28))):=PB.out.later ((zl _ _).alloc (zi _) _);have C2a:Hid (Cur O.heap.size B ao len cap (wb.alloc (Y #[I J 0,I J 0,L ⟨#[]⟩,I J 0,I J 0,I J 0,I J 0,I J 0,I J 0,I J 0,I J 0,I J 0,I J 0,L ⟨#[]⟩,H false,L ⟨#[]⟩] 28))):=CB.out.alloc _;have hlt:w.heap.size<wb.heap.size:=PB.out.1.2.2
 go_upto_region 3 with (refine aT (UAt.new wb _ _) rfl (us:=aA s k nm n x0 x1 x2 x3 x4 x5 x6 x7 p a q r) rfl (aG ..) rfl _ _ rfl rfl rfl ?_;intro w2 HUh HMh)
 have D2:Hid (PD O.heap.size B ao len cap w wb.heap.size (aA s k nm n x0 x1 x2 x3 x4 x5 x6 x7 p a q r) w2):=⟨C2a.out.moved hBb HMh,P2a.out.moved hlt HMh,HUh,hBg,hBb⟩;clear HUh HMh P2a C2a PB CB hlt hBb;generalize wb.heap.size=U at D2⊢;generalize O.heap.size=DD at D2;go_wp2_with fail;refine (Nt _ _ _ _ _ _ D2.out.1).mono ?_;rintro e w3 ⟨z,hz,rfl,c3,g3⟩;have D3:Hid (PD DD B ao len cap w U (aA s k nm n x0 x1 x2 x3 x4 x5 x6 x7 p a q r) w3):=D2.out.grown c3 g3;clear c3 g3 D2;go_wp2_with fail;refine (wB 40 _ _ _ _ _ _ om om D3.out.1).mono ?_;rintro e w4 ⟨y,rfl,c4,g4⟩;have D4:Hid (PD DD B ao len cap w U (aA s k nm n x0 x1 x2 x3 x4 x5 x6 x7 p a q r) w4):=D3.out.grown c4 g4;clear c4 g4 D3
 cases y with
 |false=>
  go_wp2_with (first|(refine bA D4.out.2.2.1 rfl rfl _ rfl rfl ?_)|(refine aT D4.out.2.1.1 rfl (us:=aA s k nm n x0 x1 x2 x3 x4 x5 x6 x7 p a q r) rfl (aG ..) rfl _ _ rfl rfl rfl ?_;intro w9 HU9 HM9));refine bodyPost_ret (aQ rfl _ _ w.heap.size (L z) _ rfl rfl rfl HU9) rfl ⟨s,k,n,p,nm,a,r,q,x0,x1,x2,x3,x4,x5,x6,x7,z,⟨hs,ha,hr,om⟩,rfl,HM9.2 _ _ (zi _) D4.out.2.1.2⟩
 |true=>
  go_wp2_with fail;refine (fC 2 _ _ _ _ _ _ om om D4.out.1).mono ?_;rintro e wd ⟨v,hv0,hv1,rfl,cd,gd⟩;have D5:Hid (PD DD B ao len cap w U (aA s k nm n x0 x1 x2 x3 x4 x5 x6 x7 p a q r) wd):=D4.out.grown cd gd;have zd:=D5.out.2.1.2.size;clear cd gd D4;obtain ⟨m,rfl⟩:=Int.eq_ofNat_of_zero_le hv0;go_wp2_with (at_make;refine wpList_make_full _ rfl _ _ 22 rfl wd.heap.size 5 i0 (.int .u8 0) 1 underlying22 HI.out.1 HI.out.2.1 HI.out.2.2.1 _ _ _ _ (1999+m) rfl rfl om om (by rw[HI.out.2.2.2];omega) (by unfold maxLen;omega) (zi _) ?_);intro wm hmo hgm;have Bm:Below wd.heap.size wd wm:=(zl _ _).grown hgm (zi _) (fun k hk=>by cases hk);have ho:wm.ownsRow wd.heap.size 5 1 (.slice (some ⟨wd.heap.size,0,none⟩) (1999+m) (1999+m)) (zm (1999+m) (0:UInt8)).length (aD (zm (1999+m) 0)):=by
   rw[<-B5,zq];exact hmo
  have HO:=bG (P:=prog) wm 22 9 5 underlying22 underlying5 underlying9 ho;have hzs:(⟨(zm (1999+m) (0:UInt8)).toArray⟩:ByteArray).size<=3000:=by
   show (zm (1999+m) (0:UInt8)).toArray.size<=_;rw[List.size_toArray,zq];omega
  have hps:(⟨#[47]⟩:ByteArray).size=1:=rfl;have PM:Hid (PU w aM wm/\UAt wm U (aA s k nm n x0 x1 x2 x3 x4 x5 x6 x7 p a q r)):=⟨D5.out.2.1.later Bm,D5.out.2.2.1.below Bm⟩;generalize (⟨(zm (1999+m) (0:UInt8)).toArray⟩:ByteArray)=Z at HO hzs;clear hmo hgm ho D5 Bm;go_wp2_with (first|(refine bA PM.out.2 rfl rfl _ rfl rfl ?_)|(refine aT PM.out.1.1 rfl (us:=aA s k nm n x0 x1 x2 x3 x4 x5 x6 x7 p a q r) rfl (aG ..) rfl _ _ rfl rfl rfl ?_;intro w9 HU9 HM9));refine bodyPost_ret (aQ rfl _ _ w.heap.size (L (⟨#[47]⟩++Z)) _ rfl rfl rfl HU9) rfl ⟨s,k,n,p,nm,a,r,q,x0,x1,x2,x3,x4,x5,x6,x7,⟨#[47]⟩++Z,⟨hs,ha,hr,by rw[ByteArray.size_append,hps];omega⟩,rfl,HM9.2 _ _ (zi _) PM.out.1.2⟩
