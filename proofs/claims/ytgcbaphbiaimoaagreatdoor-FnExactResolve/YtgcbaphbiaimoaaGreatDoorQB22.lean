/- Ip6Spec, Ip6Both, HostSpec, HostSpec2, UrlSpec2. -/
import Derived.Test.YtgcbaphbiaimoaaGreatDoorQB21
set_option maxHeartbeats 8000000
set_option maxRecDepth 100000
namespace Go.Proofs.YtgcbaphbiaimoaaGreatDoor
open Go.Value renaming int->I,string->L,bool->F,agg->E
open Go.IntKind renaming i64->J
open Go.Ending renaming returned->Y
open Go.Obj renaming cells->G
open _root_.Go.RowKit.Below renaming refl->ze
open _root_.Bool renaming and_eq_true->zh
open _root_.ByteArray renaming size_append->zm
open _root_.Int renaming toNat->za
open _root_.List renaming getD_eq_getElem?_getD->zj,getElem?_eq_getElem->zg,getElem_mem->zn,length_drop->zl,length_map->zo,size_toArray->zf,take_of_length_le->zk
open _root_.Nat renaming le_refl->zd
open _root_.Go.World renaming cell?_alloc_at->zi
open _root_.Go.Proofs.Tryz
open _root_.Go.Proofs.YtgcbaphbiaimoaaGreatDoor.Tryz
open Go.RowKit
def qU(x:Int):ByteArray:=⟨(bM x.toNat).toArray⟩
def hxT(n:Nat):ByteArray:=⟨#[hxU n]⟩
theorem Mn{x:Int}(h0:0<=x)(h:x<16):qU x=hxT x.toNat:=by
 unfold qU hxT bM;rw[if_pos om]
theorem Mo{x:Int}(h0:16<=x)(h:x<65536):qU x=qU (x/16)++hxT (x%16).toNat:=by
 have e0:(x%16).toNat=x.toNat%16:=om;have e1:(x/16).toNat=x.toNat/16:=om;unfold qU hxT;rw[show (⟨#[hxU (x%16).toNat]⟩:ByteArray)=⟨[hxU (x%16).toNat].toArray⟩ from rfl,dP,e0,e1];generalize hn:x.toNat=n;have hn0:16<=n:=om;have hn1:n<65536:=om;unfold bM
 by_cases c2:n<256
 .rw[if_neg om,if_pos c2,if_pos om];rfl
 by_cases c3:n<4096
 .rw[if_neg om,if_neg c2,if_pos c3,if_neg om,if_pos om,show n/16/16=n/256 by omega];rfl
 rw[if_neg om,if_neg c2,if_neg c3,if_neg om,if_neg om,if_pos om,show n/16/256=n/4096 by omega,show n/16/16%16=n/256%16 by omega];rfl
theorem MT(x:Int):(qU x).size<=4:=by
 unfold qU;show (bM x.toNat).toArray.size<=4;rw[zf];exact (lX _).2
theorem Ji: ∀k,k<16->((#[48,49,50,51,52,53,54,55,56,57,97,98,99,100,101,102]:Array UInt8).getD k 0)=hxU k:=by decide+kernel
theorem VT(x:Int)(h0:0<=x)(h:x<16)(W:World):
  (Instr.index 9 (L ⟨#[48,49,50,51,52,53,54,55,56,57,97,98,99,100,101,102]⟩) (I J x)).run prog W=.ok (.int .u8 ((hxU x.toNat).toNat:Int)) W:=by
 rw[run_index_string W 9 _ .i64 _ underlying9,dif_pos ⟨h0,by show x<16;exact h⟩]
 congr 3
 rw[<-Ji x.toNat om];rw[Array.getD_eq_getD_getElem?,Array.getElem?_eq_getElem (by show x.toNat<16;omega)];rfl
theorem K5(W:World)(B n:Nat)(x:Int)(hx:x=((hxU n).toNat:Int))(h:W.cell? ⟨B,0,none⟩=some (.int .u8 x)):
  (convert 22 9 (.slice (some ⟨B,0,none⟩) 1 1)).run prog W=.ok (L (hxT n)) W:=by
 have:=NU W B (hxU n).toNat (hxU n).toNat_lt x hx h
 rw[UInt8.ofNat_toNat]at this;exact this
theorem IN(x:Int)(w:World)(h0:0<=x)(h1:x<16):Calls prog 140 #[I J x] w fun e w'=>e=Y (L (qU x))/\Below w.heap.size w w':=by
 rw[Mn h0 h1];have hix:=VT x h0 h1;obtain ⟨d,hd⟩: ∃d:Int,((hxU x.toNat).toNat:Int)=d:=⟨_,rfl⟩;have hcv:(convert 22 9 (.slice (some ⟨w.heap.size,0,none⟩) 1 1)).run prog (w.alloc (G #[.int .u8 d] 5))=.ok (L (hxT x.toNat)) (w.alloc (G #[.int .u8 d] 5)):=K5 _ _ _ d hd.symm (by rw[zi _ _ _ _ rfl];rfl);rw[hd]at hix;clear hd;generalize hxT x.toNat=T at hcv⊢;go_enter func140,ntmps140;go_wp2;go_ret;exact ⟨rfl,(ze _ _).alloc (zd _) _⟩
theorem wN(x:Int)(w:World)(h0:16<=x)(h1:x<65536)(CT:Hid (∀W,Calls prog 140 #[I J (x/16)] W fun e w'=>e=Y (L (qU (x/16)))/\Below W.heap.size W w')):Calls prog 140 #[I J x] w fun e w'=>e=Y (L (qU x))/\Below w.heap.size w w':=by
 have HD:Hid (qU x=qU (x/16)++hxT (x%16).toNat):=Mo h0 h1;have hs1:=MT (x/16);have hs2:(hxT (x%16).toNat).size=1:=rfl;have hix:=VT (x%16) om om;obtain ⟨d,hd⟩: ∃d:Int,((hxU (x%16).toNat).toNat:Int)=d:=⟨_,rfl⟩;rw[hd]at hix;have ho:Hid (∀(W':World) (B:Nat),W'.cell? ⟨B,0,none⟩=some (.int .u8 d)->(convert 22 9 (.slice (some ⟨B,0,none⟩) 1 1)).run prog W'=.ok (L (hxT (x%16).toNat)) W'):=fun W' B h=>K5 W' B _ d hd.symm h
 clear hd;have hn:Hid (∀W:World,(convert 22 9 (.slice (some ⟨W.heap.size,0,none⟩) 1 1)).run prog (W.alloc (G #[.int .u8 d] 5))=.ok (L (hxT (x%16).toNat)) (W.alloc (G #[.int .u8 d] 5))):=fun W=>ho.out _ _ (by rw[zi _ _ _ _ rfl];rfl)
 obtain ⟨z,hz⟩: ∃z:Int,x%16=z:=⟨_,rfl⟩;obtain ⟨y,hy⟩: ∃y:Int,x/16=y:=⟨_,rfl⟩;rw[hz]at hn ho hs2 HD hix;rw[hy]at CT hs1 HD;have hz0:0<=z:=om;have hz1:z<16:=om;have hy0:0<=y:=om;have hy1:y<4096:=om;generalize hxT z.toNat=T2 at hn ho hs2 HD;generalize qU y=T1 at CT hs1 HD;rw[HD.out];clear HD;have hn2:=hn.out;have hce:(w.alloc (G #[.int .u8 d] 5)).drew.cell? ⟨w.heap.size,0,none⟩=some (.int .u8 d):=by
  show (w.alloc (G #[.int .u8 d] 5)).cell? ⟨w.heap.size,0,none⟩=_;rw[zi _ _ _ _ rfl];rfl
 have hn3:=ho.out _ _ hce;have HCE:Hid ((w.alloc (G #[.int .u8 d] 5)).drew.cell? ⟨w.heap.size,0,none⟩=some (.int .u8 d)):=hce;clear hce;have t1:IntKind.i64.wrap (x.tdiv 16)=y:=by rw[Int.tdiv_eq_ediv_of_nonneg om,hy];exact dZ _ om om
 have t2:x.tmod 16=z:=by rw[Int.tmod_eq_emod_of_nonneg om,hz]
 clear hy hz;go_enter func140,ntmps140;go_wp2_with fail
 go_region_with (go_at_call 140;refine (CT.out _).mono ?_;rintro e wc ⟨rfl,hbc⟩;first|have hcc:=ho.out _ _ (cell_later hbc HCE.out)|skip)
 all_goals
  go_wp2;go_ret;refine ⟨rfl,?_⟩
  first
   |exact ((Below.drew (ze _ w)).trans hbc).alloc (Nat.le_trans (zd _) hbc.size) _
   |exact (((ze w.heap.size w).alloc (zd _) _).drew).trans (hbc.mono j2)
theorem U3(x:Int)(w:World)(h0:0<=x)(h1:x<65536):Calls prog 140 #[I J x] w fun e w'=>e=Y (L (qU x))/\Below w.heap.size w w':=by
 have g1: ∀(x:Int) (w:World),0<=x->x<256->CB 140 #[I J x] w (L (qU x)):=fun x w h0 h1=>by
  by_cases c:x<16
  .exact IN x w h0 c
  exact wN x w om om fun W=>IN _ W om om
 have g2: ∀(x:Int) (w:World),0<=x->x<4096->CB 140 #[I J x] w (L (qU x)):=fun x w h0 h1=>by
  by_cases c:x<256
  .exact g1 x w h0 c
  exact wN x w om om fun W=>g1 _ W om om
 by_cases c:x<4096
 .exact g2 x w h0 c
 exact wN x w om om fun W=>g2 _ W om om
def tx(gs:List Nat)(f t k:Nat):List UInt8:=if k<=f then gtL (gs.take k)else gtL (gs.take f)++58::58::gtL ((gs.drop t).take (k-t))
theorem Jj{gs:List Nat}{f t:Nat}(hl:gs.length=8)(h:0<f):tx gs f t (0+1)=tx gs f t 0++bM (gs.getD 0 0):=by
 unfold tx;rw[if_pos om,if_pos om,ON gs om];rfl
theorem Mp{gs:List Nat}{f t k:Nat}(hl:gs.length=8)(hk:0<k)(h:k<f)(h8:k<8):tx gs f t (k+1)=tx gs f t k++[58]++bM (gs.getD k 0):=by
 unfold tx;rw[if_pos om,if_pos om,OP gs k om hk]
theorem Mq{gs:List Nat}{f t:Nat}(h:f<t):tx gs f t t=tx gs f t f++[58,58]:=by
 unfold tx;rw[if_neg om,if_pos om,Nat.sub_self,List.take_zero];rfl
theorem Mr{gs:List Nat}{f t:Nat}(hl:gs.length=8)(h:f<t)(h8:t<8):tx gs f t (t+1)=tx gs f t t++bM (gs.getD t 0):=by
 unfold tx;rw[if_neg om,if_neg om,Nat.sub_self,List.take_zero,show t+1-t=1 by omega,ON _ (by rw[zl];omega)];rw[show (gs.drop t).getD 0 0=gs.getD t 0 by simp[List.getD]];simp[gtL,jl]
theorem tx_hi{gs:List Nat}{f t k:Nat}(hl:gs.length=8)(h:f<t)(hk:t<k)(h8:k<8):tx gs f t (k+1)=tx gs f t k++[58]++bM (gs.getD k 0):=by
 unfold tx;rw[if_neg om,if_neg om,show k+1-t=(k-t)+1 by omega,OP _ (k-t) (by rw[zl];omega) om];rw[show (gs.drop t).getD (k-t) 0=gs.getD k 0 by simp[List.getD,show t+(k-t)=k by omega]];simp
theorem QJ{gs:List Nat}{f t k:Nat}(hl:gs.length=8):(tx gs f t k).length<=100:=by
 unfold tx;have g1:=(pN (gs.take k)).1;have g2:=(pN (gs.take f)).1;have g3:=(pN ((gs.drop t).take (k-t))).1;simp only[List.length_take,zl]at g1 g2 g3;split
 .omega
 simp only[List.length_append,List.length_cons];omega
theorem Ms(x0 x1 x2 x3 x4 x5 x6 x7:Int)(hok:okG [x0,x1,x2,x3,x4,x5,x6,x7]=true):
  tx ([x0,x1,x2,x3,x4,x5,x6,x7].map za) (hF 0 (8,8) (zb [x0,x1,x2,x3,x4,x5,x6,x7])).1 (hF 0 (8,8) (zb [x0,x1,x2,x3,x4,x5,x6,x7])).2 8=fS [x0,x1,x2,x3,x4,x5,x6,x7]:=by
 have h:=AH x0 x1 x2 x3 x4 x5 x6 x7;unfold fS;rw[if_pos hok];have hl:([x0,x1,x2,x3,x4,x5,x6,x7].map za).length=8:=rfl;generalize [x0,x1,x2,x3,x4,x5,x6,x7].map za=gs at hl;unfold vV at h;generalize kG 0 (0,0,0) (zb [x0,x1,x2,x3,x4,x5,x6,x7])=p at h;generalize hF 0 (8,8) (zb [x0,x1,x2,x3,x4,x5,x6,x7])=q at h;simp only[zh,decide_eq_true_eq]at h;obtain ⟨⟨h1,h2⟩,h3⟩:=h
 by_cases c:p.2.1-p.1<2
 .rw[if_pos c]at h3
  simp only[decide_eq_true_eq]at h3;subst h3;unfold tx xJ;rw[if_pos j2,if_pos c,zk om]
 rw[if_neg c]at h3;simp only[zh,decide_eq_true_eq]at h3;rw[h3.1];unfold tx xJ;simp only;rw[if_neg om,if_neg c,zk (l:=gs.drop p.2.1) (by rw[zl];omega)]
theorem Jk(x0 x1 x2 x3 x4 x5 x6 x7:Int):((hF 0 (8,8) (zb [x0,x1,x2,x3,x4,x5,x6,x7])).1=8/\(hF 0 (8,8) (zb [x0,x1,x2,x3,x4,x5,x6,x7])).2=8)∨((hF 0 (8,8) (zb [x0,x1,x2,x3,x4,x5,x6,x7])).1<(hF 0 (8,8) (zb [x0,x1,x2,x3,x4,x5,x6,x7])).2/\(hF 0 (8,8) (zb [x0,x1,x2,x3,x4,x5,x6,x7])).2<=8):=by
 have h:=AH x0 x1 x2 x3 x4 x5 x6 x7;unfold vV at h;generalize kG 0 (0,0,0) (zb [x0,x1,x2,x3,x4,x5,x6,x7])=p at h;generalize hF 0 (8,8) (zb [x0,x1,x2,x3,x4,x5,x6,x7])=q at h;simp only[zh,decide_eq_true_eq]at h;obtain ⟨⟨h1,h2⟩,h3⟩:=h
 by_cases c:p.2.1-p.1<2
 .rw[if_pos c]at h3
  simp only[decide_eq_true_eq]at h3;subst h3;exact .inl ⟨rfl,rfl⟩
 rw[if_neg c]at h3;simp only[zh,decide_eq_true_eq]at h3;rw[h3.1];exact .inr ⟨by simp only;omega,h2⟩
theorem Jl{z:List Int}(h:okG z=false):fS z=[]:=by unfold fS;rw[h];rfl
theorem DC(x0 x1 x2 x3 x4 x5 x6 x7:Int)(w:World):Calls prog 88 #[E #[I J x0,I J x1,I J x2,I J x3,I J x4,I J x5,I J x6,I J x7]] w fun e w'=>e=Y (L ⟨(fS [x0,x1,x2,x3,x4,x5,x6,x7]).toArray⟩)/\Below w.heap.size w w':=by
 have HC:Hid (∀k,k<8->(w.alloc (G #[I J x0,I J x1,I J x2,I J x3,I J x4,I J x5,I J x6,I J x7] 24)).cell? ⟨w.heap.size,k,none⟩=some (I J ([x0,x1,x2,x3,x4,x5,x6,x7].getD k 0))):=fun k hk=>FX w x0 x1 x2 x3 x4 x5 x6 x7 k hk
 have CR:Hid (∀W,CB 139 #[E #[I J x0,I J x1,I J x2,I J x3,I J x4,I J x5,I J x6,I J x7]] W (rowW (hF 0 (8,8) (zb [x0,x1,x2,x3,x4,x5,x6,x7])))):=fun W=>Ib x0 x1 x2 x3 x4 x5 x6 x7 W
 have HE:Hid (okG [x0,x1,x2,x3,x4,x5,x6,x7]=true->tx ([x0,x1,x2,x3,x4,x5,x6,x7].map za) (hF 0 (8,8) (zb [x0,x1,x2,x3,x4,x5,x6,x7])).1 (hF 0 (8,8) (zb [x0,x1,x2,x3,x4,x5,x6,x7])).2 8=fS [x0,x1,x2,x3,x4,x5,x6,x7]):=Ms x0 x1 x2 x3 x4 x5 x6 x7;have HRO:Hid (((hF 0 (8,8) (zb [x0,x1,x2,x3,x4,x5,x6,x7])).1=8/\(hF 0 (8,8) (zb [x0,x1,x2,x3,x4,x5,x6,x7])).2=8)∨((hF 0 (8,8) (zb [x0,x1,x2,x3,x4,x5,x6,x7])).1<(hF 0 (8,8) (zb [x0,x1,x2,x3,x4,x5,x6,x7])).2/\(hF 0 (8,8) (zb [x0,x1,x2,x3,x4,x5,x6,x7])).2<=8)):=Jk x0 x1 x2 x3 x4 x5 x6 x7;generalize hF 0 (8,8) (zb [x0,x1,x2,x3,x4,x5,x6,x7])=r at CR HE HRO;obtain ⟨f,t⟩:=r;simp only[rowW]at CR HE HRO;generalize hz:[x0,x1,x2,x3,x4,x5,x6,x7]=z at HC HE⊢;have HZL:Hid (z.length=8):=by show _=_;rw[<-hz];rfl
 have HZZ:Hid ([x0,x1,x2,x3,x4,x5,x6,x7]=z):=hz;clear hz;go_enter func88,ntmps88;go_wp2
 go_loop[3] (fun i=> ∃k:Nat,k<=8/\i=I J k/\ ∀x∈z.take k,0<=x/\x<=65535) (fun i=>8-(intOf i).toNat)
 case atStart=>exact ⟨0,om,rfl,fun x hx=>by simp at hx⟩
 obtain ⟨k,hk,rfl,hall⟩:=hrel;have HA0:Hid (∀x∈z.take k,0<=x/\x<=65535):=hall;clear hall
 by_cases hlt:k<8
 .have hce:=HC.out k hlt
  have HT:Hid (z.take (k+1)=z.take k++[z.getD k 0]):=nQ z k (by have:=HZL.out;omega);have HM:Hid (z.getD k 0∈z):=by
   show _∈_;rw[zj,zg (by have:=HZL.out;omega)];exact zn _
  have hki:(k:Int)<8:=om;generalize z.getD k 0=y at hce HT HM
  by_cases hy:0<=y/\y<=65535
  .obtain ⟨hy0,hy1⟩:=hy
   go_wp2_with fail;refine j5 (aI _ _ _ _ hy0 hy1) ?_;go_wp2_with fail;go_round
   case rel=>
    refine ⟨k+1,om,gn,fun x hx=> ?_⟩;rw[HT.out]at hx
    rcases List.mem_append.1 hx with h|h
    .exact HA0.out x h
    rw[List.mem_singleton.1 h];exact ⟨hy0,hy1⟩
   case measure=>exact j1
  have HF:Hid (fS z=[]):=Jl (Bo HM.out hy);have HY:Hid (y<0∨65535<y):=by show _∨_;omega
  clear hy;go_wp2_with fail;refine j5 (aP _ _ _ _ HY.out) ?_;go_wp2_with fail;go_ret;exact ⟨by rw[HF.out];rfl,(ze _ _).alloc (zd _) _⟩
 have HA:Hid (∀x∈z,0<=x/\x<=65535):=fun x hx=>HA0.out x (by rw[zk (by have:=HZL.out;omega)];exact hx)
 have HEE:Hid (tx (z.map za) f t 8=fS z):=HE.out (DX HA.out);have hki: ¬(k:Int)<8:=om;have hfl:f<=8/\t<=8:=by have:=HRO.out;omega
 obtain ⟨hf8,ht8⟩:=hfl;have HGL:Hid ((z.map za).length=8):=by show _=_;rw[zo];exact HZL.out
 clear HA0 HE hk hlt;have hcs:True:=trivial;have HC0:Hid (∀k,k<8->(w.alloc (G #[I J x0,I J x1,I J x2,I J x3,I J x4,I J x5,I J x6,I J x7] 24)).cell? ⟨w.heap.size,k,none⟩=some (I J ([x0,x1,x2,x3,x4,x5,x6,x7].getD k 0))):=fun k hk=>FX w x0 x1 x2 x3 x4 x5 x6 x7 k hk
 have a0:(w.alloc (G #[I J x0,I J x1,I J x2,I J x3,I J x4,I J x5,I J x6,I J x7] 24)).cell? ⟨w.heap.size,0,none⟩=some (I J x0):=HC0.out 0 de;have a1:(w.alloc (G #[I J x0,I J x1,I J x2,I J x3,I J x4,I J x5,I J x6,I J x7] 24)).cell? ⟨w.heap.size,1,none⟩=some (I J x1):=HC0.out 1 de;have a2:(w.alloc (G #[I J x0,I J x1,I J x2,I J x3,I J x4,I J x5,I J x6,I J x7] 24)).cell? ⟨w.heap.size,2,none⟩=some (I J x2):=HC0.out 2 de;have a3:(w.alloc (G #[I J x0,I J x1,I J x2,I J x3,I J x4,I J x5,I J x6,I J x7] 24)).cell? ⟨w.heap.size,3,none⟩=some (I J x3):=HC0.out 3 de;have a4:(w.alloc (G #[I J x0,I J x1,I J x2,I J x3,I J x4,I J x5,I J x6,I J x7] 24)).cell? ⟨w.heap.size,4,none⟩=some (I J x4):=HC0.out 4 de;have a5:(w.alloc (G #[I J x0,I J x1,I J x2,I J x3,I J x4,I J x5,I J x6,I J x7] 24)).cell? ⟨w.heap.size,5,none⟩=some (I J x5):=HC0.out 5 de;have a6:(w.alloc (G #[I J x0,I J x1,I J x2,I J x3,I J x4,I J x5,I J x6,I J x7] 24)).cell? ⟨w.heap.size,6,none⟩=some (I J x6):=HC0.out 6 de;have a7:(w.alloc (G #[I J x0,I J x1,I J x2,I J x3,I J x4,I J x5,I J x6,I J x7] 24)).cell? ⟨w.heap.size,7,none⟩=some (I J x7):=HC0.out 7 de;go_wp2_with fail;refine (CR.out _).mono ?_;rintro e w1 ⟨rfl,b1⟩;have HB1:Hid (Below (w.alloc (G #[I J x0,I J x1,I J x2,I J x3,I J x4,I J x5,I J x6,I J x7] 24)).heap.size (w.alloc (G #[I J x0,I J x1,I J x2,I J x3,I J x4,I J x5,I J x6,I J x7] 24)) w1):=b1;clear b1 a0 a1 a2 a3 a4 a5 a6 a7 HC0 hcs CR;go_wp2_with fail
 go_loopw[6,7] (fun S i wr=> ∃(k:Nat) (T:ByteArray),(k<=f∨t<=k)/\k<=8/\i=I J k/\S=L T/\T.size<=100/\T=⟨(tx (z.map za) f t k).toArray⟩/\Below (w.alloc (G #[I J x0,I J x1,I J x2,I J x3,I J x4,I J x5,I J x6,I J x7] 24)).heap.size (w.alloc (G #[I J x0,I J x1,I J x2,I J x3,I J x4,I J x5,I J x6,I J x7] 24)) wr) (fun _ i _=>8-(intOf i).toNat)
 case atStart=>exact ⟨0,⟨#[]⟩,.inl (Nat.zero_le _),om,rfl,rfl,de,rfl,HB1.out⟩
 obtain ⟨k,T,hkr,hk,rfl,rfl,hTs,hTe,hb1⟩:=hrel;have HTE:Hid (T=⟨(tx (z.map za) f t k).toArray⟩):=hTe;have HBW:Hid (Below w.heap.size w wr):=((ze _ w).alloc (zd _) _).trans (hb1.mono j2);have HKR:Hid (k<=f∨t<=k):=hkr;clear hTe hkr
 by_cases hlt:k<8
 .have hki:(k:Int)<8:=om
  by_cases hkf:k=f
  .have hft:f<t:=by have:=HRO.out;omega
   have hkq:((k:Int)==(f:Int))=true:=by simp;omega
   have HKF:Hid (k=f):=hkf;have HT2:Hid (tx (z.map za) f t t=tx (z.map za) f t f++[58,58]):=Mq hft;have ht0:0<(t:Int):=om;clear hkf;have zc:(⟨#[58,58]⟩:ByteArray).size=2:=rfl;go_wp2_with fail;go_roundw
   case rel=>
    refine ⟨t,T++⟨#[58,58]⟩,.inr (zd _),ht8,gn,rfl,?_,?_,hb1⟩
    .have h1:=HT2.out
     have h2:=QJ (f:=f) (t:=t) (k:=t) HGL.out;have h3:=HTE.out;rw[HKF.out]at h3;rw[show (T++⟨#[58,58]⟩:ByteArray)=⟨(tx (z.map za) f t t).toArray⟩ by rw[h1,h3,show (⟨#[58,58]⟩:ByteArray)=⟨[58,58].toArray⟩ from rfl,dP]];show (tx (z.map za) f t t).toArray.size<=100;rw[zf];exact h2
    have h3:=HTE.out;rw[HKF.out]at h3;rw[HT2.out,h3,show (⟨#[58,58]⟩:ByteArray)=⟨[58,58].toArray⟩ from rfl,dP]
   case measure=>simp[intOf];have:=HKF.out;omega
  have hkq:((k:Int)==(f:Int))=false:=by simp;omega
  have hce:=cell_later hb1 (HC.out k om);have hgr:=HA.out (z.getD k 0) (by
   rw[zj,zg (by have:=HZL.out;omega)];exact zn _)
  have CT:Hid (∀W,CB 140 #[I J (z.getD k 0)] W (L (qU (z.getD k 0)))):=fun W=>U3 _ W om om
  have HX:Hid (qU (z.getD k 0)=⟨(bM ((z.map za).getD k 0)).toArray⟩):=by
   show _=_;unfold qU;simp only[zj];rw[zg (by have:=HZL.out;omega),zg (by rw[zo];have:=HZL.out;omega),List.getElem_map];rfl
  have hs2:=MT (z.getD k 0);generalize qU (z.getD k 0)=T2 at CT HX hs2;generalize z.getD k 0=y at hce CT hgr;clear hgr
  by_cases hcol:k=0∨k=t
  .have HS:Hid (tx (z.map za) f t (k+1)=tx (z.map za) f t k++bM ((z.map za).getD k 0)):=by
    show _=_;have h1:=HKR.out;have h2:=HRO.out
    by_cases h0:k=0
    .subst h0
     exact Jj HGL.out om
    have h3:k=t:=om;subst h3;exact Mr HGL.out om hlt
   by_cases hk0:0<k
   .have hk0':0<(k:Int):=om
    have hkt:((k:Int)==(t:Int))=true:=by simp;omega
    clear hcol hk0;clear hkf;go_wp2_with fail;refine (CT.out _).mono ?_;rintro e w2 ⟨rfl,b2⟩;have B2:=hb1.trans (b2.mono hb1.size);clear b2 hb1 hce;go_wp2_with fail;go_roundw
    case rel=>
     have e1:(T++T2:ByteArray)=⟨(tx (z.map za) f t (k+1)).toArray⟩:=by
      rw[HS.out,HTE.out,HX.out,dP]
     refine ⟨k+1,T++T2,?_,om,gn,rfl,?_,e1,B2⟩
     .have h1:=HKR.out
      have h2:k≠f:=fun h=>by simp[h]at hkq
      omega
     rw[e1];show (tx (z.map za) f t (k+1)).toArray.size<=100;rw[zf];exact QJ HGL.out
    case measure=>exact j1
   have hk0': ¬0<(k:Int):=om;clear hcol hk0;clear hkf;go_wp2_with fail;refine (CT.out _).mono ?_;rintro e w2 ⟨rfl,b2⟩;have B2:=hb1.trans (b2.mono hb1.size);clear b2 hb1 hce;go_wp2_with fail;go_roundw
   case rel=>
    have e1:(T++T2:ByteArray)=⟨(tx (z.map za) f t (k+1)).toArray⟩:=by
     rw[HS.out,HTE.out,HX.out,dP]
    refine ⟨k+1,T++T2,?_,om,gn,rfl,?_,e1,B2⟩
    .have h1:=HKR.out
     have h2:k≠f:=fun h=>by simp[h]at hkq
     omega
    rw[e1];show (tx (z.map za) f t (k+1)).toArray.size<=100;rw[zf];exact QJ HGL.out
   case measure=>exact j1
  have HS:Hid (tx (z.map za) f t (k+1)=tx (z.map za) f t k++[58]++bM ((z.map za).getD k 0)):=by
   show _=_;have h1:=HKR.out;have h2:=HRO.out
   by_cases h0:k<f
   .exact Mp HGL.out om h0 hlt
   exact tx_hi HGL.out om om hlt
  have hk0:0<(k:Int):=om;have hkt:((k:Int)==(t:Int))=false:=by simp;omega
  clear hcol hkf;have zc:(⟨#[58]⟩:ByteArray).size=1:=rfl;go_wp2_with fail;refine (CT.out _).mono ?_;rintro e w2 ⟨rfl,b2⟩;have B2:=hb1.trans (b2.mono hb1.size);clear b2 hb1 hce;go_wp2_with fail;go_roundw
  case rel=>
   have e1:(T++⟨#[58]⟩++T2:ByteArray)=⟨(tx (z.map za) f t (k+1)).toArray⟩:=by
    rw[HS.out,HTE.out,HX.out,show (⟨#[58]⟩:ByteArray)=⟨[58].toArray⟩ from rfl,dP,dP]
   refine ⟨k+1,T++⟨#[58]⟩++T2,?_,om,gn,rfl,?_,e1,B2⟩
   .have h1:=HKR.out
    have h2:k≠f:=fun h=>by simp[h]at hkq
    omega
   rw[e1];show (tx (z.map za) f t (k+1)).toArray.size<=100;rw[zf];exact QJ HGL.out
  case measure=>exact j1
 have HTT:Hid ((⟨(fS z).toArray⟩:ByteArray)=T):=by
  show _=_;have h8:k=8:=om;rw[HTE.out,h8,HEE.out]
 have hki: ¬(k:Int)<8:=om;go_wp2_with fail;go_ret;exact ⟨by rw[HTT.out];rfl,HBW.out⟩
def MU(W:World)(B:Nat):Prop:=
 W.cell? ⟨B,0,none⟩=some (I J 0)/\W.cell? ⟨B,1,none⟩=some (I J 0)/\W.cell? ⟨B,2,none⟩=some (I J 0)/\W.cell? ⟨B,3,none⟩=some (I J 0)/\
 W.cell? ⟨B,4,none⟩=some (I J 0)/\W.cell? ⟨B,5,none⟩=some (I J 0)/\W.cell? ⟨B,6,none⟩=some (I J 0)/\W.cell? ⟨B,7,none⟩=some (I J 0)
theorem ZB(w W:World)(t:TypeId)(hb:Below (w.alloc (G #[I J 0,I J 0,I J 0,I J 0,I J 0,I J 0,I J 0,I J 0] t)).heap.size (w.alloc (G #[I J 0,I J 0,I J 0,I J 0,I J 0,I J 0,I J 0,I J 0] t)) W):MU W w.heap.size:=by
 have key: ∀j v,(#[I J 0,I J 0,I J 0,I J 0,I J 0,I J 0,I J 0,I J 0]:Array Value)[j]? =some v->W.cell? ⟨w.heap.size,j,none⟩=some v:=fun j v h=>cell_later hb (by rw[zi _ _ _ _ rfl];simpa using h)
 exact ⟨key 0 _ rfl,key 1 _ rfl,key 2 _ rfl,key 3 _ rfl,key 4 _ rfl,key 5 _ rfl,key 6 _ rfl,key 7 _ rfl⟩
def VU(w W:World)(k:Int)(s:ByteArray)(n:Int)(x0 x1 x2 x3 x4 x5 x6 x7:Int):Prop:=fJ w W k s n x0 x1 x2 x3 x4 x5 x6 x7/\MU W (w.heap.size+1)
theorem Eg(w W:World)(k:Int)(s:ByteArray)(n:Int)(x0 x1 x2 x3 x4 x5 x6 x7:Int)(t u:TypeId)(hb:Below ((w.alloc (G #[I J k,L s,I J n,I J x0,I J x1,I J x2,I J x3,I J x4,I J x5,I J x6,I J x7] t)).alloc (G #[I J 0,I J 0,I J 0,I J 0,I J 0,I J 0,I J 0,I J 0] u)).heap.size ((w.alloc (G #[I J k,L s,I J n,I J x0,I J x1,I J x2,I J x3,I J x4,I J x5,I J x6,I J x7] t)).alloc (G #[I J 0,I J 0,I J 0,I J 0,I J 0,I J 0,I J 0,I J 0] u)) W):VU w W k s n x0 x1 x2 x3 x4 x5 x6 x7:=by
 refine ⟨eB w W k s n x0 x1 x2 x3 x4 x5 x6 x7 t (((ze _ _).alloc (zd _) _).trans (hb.mono j2)),?_⟩;have h:=ZB _ W u hb
 rwa[show (w.alloc (G #[I J k,L s,I J n,I J x0,I J x1,I J x2,I J x3,I J x4,I J x5,I J x6,I J x7] t)).heap.size=w.heap.size+1 by simp]at h
theorem VV(n:Int)(s:ByteArray)(x0 x1 x2 x3 x4 x5 x6 x7:Int)(w:World)(hs:s.size<=1048576):Calls prog 38 #[E #[I J 1,L s,I J n,I J x0,I J x1,I J x2,I J x3,I J x4,I J x5,I J x6,I J x7]] w fun e w'=>e=Y (F (hOk ⟨1,s,n,[x0,x1,x2,x3,x4,x5,x6,x7]⟩))/\Below w.heap.size w w':=by
 have HZ0:Hid (hOk ⟨1,s,n,[x0,x1,x2,x3,x4,x5,x6,x7]⟩=(decide (cX s=some s.data.toList)&& !nD s&&decide (n=0)&&eqB [x0,x1,x2,x3,x4,x5,x6,x7] gI)):=rfl;have CN:Hid (∀W,CB 86 #[L s] W (dW (cX s))):=fun W=>II s W hs
 have CE:Hid (∀W,CB 87 #[L s] W (F (nD s))):=fun W=>qK s W hs
 have heq: ∀W,_:=eqA 9998 x0 x1 x2 x3 x4 x5 x6 x7 0 0 0 0 0 0 0 0;rw[show [0,0,0,0,0,0,0,0]=gI from rfl,show 9998+2=10000 from rfl]at heq;obtain ⟨O,hO⟩: ∃O,O=(w.alloc (G #[I J 1,L s,I J n,I J x0,I J x1,I J x2,I J x3,I J x4,I J x5,I J x6,I J x7] 26)).alloc (G #[I J 0,I J 0,I J 0,I J 0,I J 0,I J 0,I J 0,I J 0] 24):=⟨_,rfl⟩;have HL:Hid (∀W,Below O.heap.size O W->VU w W 1 s n x0 x1 x2 x3 x4 x5 x6 x7):=fun W h=>by rw[hO]at h;exact Eg w W _ _ _ x0 x1 x2 x3 x4 x5 x6 x7 _ _ h
 have HE:Hid (∀W,Below O.heap.size O W->Below w.heap.size w W):=fun W h=>by
  rw[hO]at h;exact (((ze _ w).alloc (zd _) _).alloc j2 _).trans (h.mono (by simp;omega))
 have CN1:Hid (Calls prog 86 #[L s] O fun e w'=>e=Y (dW (cX s))/\Hid (Below O.heap.size O w')):=CN.out O;have CE1:Hid (∀W,Below O.heap.size O W->Calls prog 87 #[L s] W fun e w'=>e=Y (F (nD s))/\VU w w' 1 s n x0 x1 x2 x3 x4 x5 x6 x7/\Hid (Below O.heap.size O w')):=fun W hW=>
  (CE.out W).mono fun e w' h=>⟨h.1,HL.out w' (hW.trans (h.2.mono hW.size)),hW.trans (h.2.mono hW.size)⟩
 clear CN CE;generalize eqB [x0,x1,x2,x3,x4,x5,x6,x7] gI=q at heq HZ0
 cases hn:cX s with
 |none=>
  have HZ:Hid (hOk ⟨1,s,n,[x0,x1,x2,x3,x4,x5,x6,x7]⟩=false):=by
   show _=_;rw[HZ0.out,hn,decide_eq_false j2];rfl
  rw[hn,show dW none=.tuple #[L ⟨#[]⟩,F false] from rfl]at CN1;clear hn HZ0;go_enter func38,ntmps38;go_wp2_with fail;rw[<-hO];refine CN1.out.mono ?_;rintro e w1 ⟨rfl,b1⟩;obtain ⟨⟨c0,c1,c2,c3,c4,c5,c6,c7,c8,c9,c10⟩,⟨d0,d1,d2,d3,d4,d5,d6,d7⟩⟩:=HL.out w1 b1.out;go_wp2_with fail;go_ret;exact ⟨by rw[HZ.out];rfl,HE.out _ b1.out⟩
 |some m=>
  by_cases he:m=s.data.toList
  .rw[hn,show dW (some m)=.tuple #[L s,F true] by rw[he];show Value.tuple #[L ⟨s.data.toList.toArray⟩,F true]=_;rw[sU]]at CN1
   have HZ1:Hid (hOk ⟨1,s,n,[x0,x1,x2,x3,x4,x5,x6,x7]⟩=(!nD s&&decide (n=0)&&q)):=by
    show _=_;rw[HZ0.out,hn,he,decide_eq_true rfl];rfl
   clear hn HZ0 he;generalize nD s=r at CE1 HZ1
   cases r with
   |true=>
    go_enter func38,ntmps38;go_wp2_with fail;rw[<-hO];refine CN1.out.mono ?_;rintro e w1 ⟨rfl,b1⟩;obtain ⟨⟨c0,c1,c2,c3,c4,c5,c6,c7,c8,c9,c10⟩,⟨d0,d1,d2,d3,d4,d5,d6,d7⟩⟩:=HL.out w1 b1.out;go_wp2_with fail;refine (CE1.out _ b1.out).mono ?_;rintro e w2 ⟨rfl,⟨⟨e0,e1,e2,e3,e4,e5,e6,e7,e8,e9,e10⟩,⟨f0,f1,f2,f3,f4,f5,f6,f7⟩⟩,b2⟩;go_wp2_with fail;go_ret;exact ⟨by rw[HZ1.out];rfl,HE.out _ b2.out⟩
   |false=>
    by_cases h0:n=0
    .subst h0
     go_enter func38,ntmps38;go_wp2_with fail;rw[<-hO];refine CN1.out.mono ?_;rintro e w1 ⟨rfl,b1⟩;obtain ⟨⟨c0,c1,c2,c3,c4,c5,c6,c7,c8,c9,c10⟩,⟨d0,d1,d2,d3,d4,d5,d6,d7⟩⟩:=HL.out w1 b1.out;go_wp2_with fail;refine (CE1.out _ b1.out).mono ?_;rintro e w2 ⟨rfl,⟨⟨e0,e1,e2,e3,e4,e5,e6,e7,e8,e9,e10⟩,⟨f0,f1,f2,f3,f4,f5,f6,f7⟩⟩,b2⟩;go_wp2_with fail;go_ret;exact ⟨by rw[HZ1.out];rfl,HE.out _ b2.out⟩
    have HZ:Hid (hOk ⟨1,s,n,[x0,x1,x2,x3,x4,x5,x6,x7]⟩=false):=by
     show _=_;rw[HZ1.out,decide_eq_false h0];rfl
    have q0:(n==0)=false:=beq_eq_false_iff_ne.2 h0;clear h0 HZ1;go_enter func38,ntmps38;go_wp2_with fail;rw[<-hO];refine CN1.out.mono ?_;rintro e w1 ⟨rfl,b1⟩;obtain ⟨⟨c0,c1,c2,c3,c4,c5,c6,c7,c8,c9,c10⟩,⟨d0,d1,d2,d3,d4,d5,d6,d7⟩⟩:=HL.out w1 b1.out;go_wp2_with fail;refine (CE1.out _ b1.out).mono ?_;rintro e w2 ⟨rfl,⟨⟨e0,e1,e2,e3,e4,e5,e6,e7,e8,e9,e10⟩,⟨f0,f1,f2,f3,f4,f5,f6,f7⟩⟩,b2⟩;go_wp2_with fail;go_ret;exact ⟨by rw[HZ.out];rfl,HE.out _ b2.out⟩
  have HZ:Hid (hOk ⟨1,s,n,[x0,x1,x2,x3,x4,x5,x6,x7]⟩=false):=by
   show _=_;rw[HZ0.out,hn,decide_eq_false (by intro e;exact he (Option.some.inj e))];rfl
  have hne:((⟨m.toArray⟩:ByteArray).toList==s.toList)=false:=rG (fun e=>he (by rw[<-e]));rw[hn,show dW (some m)=.tuple #[L ⟨m.toArray⟩,F true] from rfl]at CN1;generalize (⟨m.toArray⟩:ByteArray)=T at CN1 hne;clear hn HZ0 he;go_enter func38,ntmps38;go_wp2_with fail;rw[<-hO];refine CN1.out.mono ?_;rintro e w1 ⟨rfl,b1⟩;obtain ⟨⟨c0,c1,c2,c3,c4,c5,c6,c7,c8,c9,c10⟩,⟨d0,d1,d2,d3,d4,d5,d6,d7⟩⟩:=HL.out w1 b1.out;go_wp2_with fail;go_ret;exact ⟨by rw[HZ.out];rfl,HE.out _ b1.out⟩
theorem VW(n:Int)(s:ByteArray)(x0 x1 x2 x3 x4 x5 x6 x7:Int)(w:World):Calls prog 38 #[E #[I J 2,L s,I J n,I J x0,I J x1,I J x2,I J x3,I J x4,I J x5,I J x6,I J x7]] w fun e w'=>e=Y (F (hOk ⟨2,s,n,[x0,x1,x2,x3,x4,x5,x6,x7]⟩))/\Below w.heap.size w w':=by
 have HZ0:Hid (hOk ⟨2,s,n,[x0,x1,x2,x3,x4,x5,x6,x7]⟩=(decide (s.size=0)&&decide (0<=n/\n<4294967296)&&eqB [x0,x1,x2,x3,x4,x5,x6,x7] gI)):=rfl;have heq: ∀W,_:=eqA 9998 x0 x1 x2 x3 x4 x5 x6 x7 0 0 0 0 0 0 0 0;rw[show [0,0,0,0,0,0,0,0]=gI from rfl,show 9998+2=10000 from rfl]at heq;obtain ⟨O,hO⟩: ∃O,O=(w.alloc (G #[I J 2,L s,I J n,I J x0,I J x1,I J x2,I J x3,I J x4,I J x5,I J x6,I J x7] 26)).alloc (G #[I J 0,I J 0,I J 0,I J 0,I J 0,I J 0,I J 0,I J 0] 24):=⟨_,rfl⟩;have HL:Hid (∀W,Below O.heap.size O W->VU w W 2 s n x0 x1 x2 x3 x4 x5 x6 x7):=fun W h=>by rw[hO]at h;exact Eg w W _ _ _ x0 x1 x2 x3 x4 x5 x6 x7 _ _ h
 have HE:Hid (∀W,Below O.heap.size O W->Below w.heap.size w W):=fun W h=>by
  rw[hO]at h;exact (((ze _ w).alloc (zd _) _).alloc j2 _).trans (h.mono (by simp;omega))
 generalize eqB [x0,x1,x2,x3,x4,x5,x6,x7] gI=q at heq HZ0
 by_cases h0:s.size=0
 .have hem:=aS h0
  by_cases hr:0<=n/\n<4294967296
  .have HZ:Hid (hOk ⟨2,s,n,[x0,x1,x2,x3,x4,x5,x6,x7]⟩=q):=by
    show _=_;rw[HZ0.out,decide_eq_true h0,decide_eq_true hr];rfl
   have CI:Hid (∀W,CS 39 #[I J n,I J 0,I J 4294967295] W (F true)):=fun W=>iT _ _ _ W om om
   clear h0 hr HZ0;go_enter func38,ntmps38;go_wp2_with fail;refine (CI.out _).mono ?_;rintro e w1 ⟨rfl,rfl⟩;go_wp2_with fail;go_ret;exact ⟨by rw[HZ.out];rfl,by go_grown⟩
  have HZ:Hid (hOk ⟨2,s,n,[x0,x1,x2,x3,x4,x5,x6,x7]⟩=false):=by
   show _=_;rw[HZ0.out,decide_eq_true h0,decide_eq_false hr];rfl
  have CI:Hid (∀W,CS 39 #[I J n,I J 0,I J 4294967295] W (F false)):=fun W=>iG _ _ _ W om
  clear h0 hr HZ0;go_enter func38,ntmps38;go_wp2_with fail;refine (CI.out _).mono ?_;rintro e w1 ⟨rfl,rfl⟩;go_wp2_with fail;go_ret;exact ⟨by rw[HZ.out];rfl,by go_grown⟩
 have HZ:Hid (hOk ⟨2,s,n,[x0,x1,x2,x3,x4,x5,x6,x7]⟩=false):=by
  show _=_;rw[HZ0.out,decide_eq_false h0];rfl
 have hem:=aW (by omega:0<s.size);clear h0 HZ0;go_enter func38,ntmps38;go_wp2_with fail;go_ret;exact ⟨by rw[HZ.out];rfl,by go_grown⟩
theorem U4(x0 x1 x2 x3 x4 x5 x6 x7:Int):(⟨(fS [x0,x1,x2,x3,x4,x5,x6,x7]).toArray⟩:ByteArray).toList.isEmpty= !okG [x0,x1,x2,x3,x4,x5,x6,x7]:=by
 cases h:okG [x0,x1,x2,x3,x4,x5,x6,x7]with
 |false=>
  have e:fS [x0,x1,x2,x3,x4,x5,x6,x7]=[]:=by unfold fS;rw[if_neg (by rw[h];decide)]
  rw[e];exact aS rfl
 |true=>
  refine aW ?_;show 0<(fS [x0,x1,x2,x3,x4,x5,x6,x7]).toArray.size;rw[zf];unfold fS;rw[if_pos h];exact Nat.lt_of_lt_of_le (by decide:0<2) (E6 rfl (OR (AH x0 x1 x2 x3 x4 x5 x6 x7)).2).1
theorem VX(n:Int)(s:ByteArray)(x0 x1 x2 x3 x4 x5 x6 x7:Int)(w:World):Calls prog 38 #[E #[I J 3,L s,I J n,I J x0,I J x1,I J x2,I J x3,I J x4,I J x5,I J x6,I J x7]] w fun e w'=>e=Y (F (hOk ⟨3,s,n,[x0,x1,x2,x3,x4,x5,x6,x7]⟩))/\Below w.heap.size w w':=by
 have HZ0:Hid (hOk ⟨3,s,n,[x0,x1,x2,x3,x4,x5,x6,x7]⟩=(decide (s.size=0)&&decide (n=0)&&okG [x0,x1,x2,x3,x4,x5,x6,x7])):=rfl;have hie:=U4 x0 x1 x2 x3 x4 x5 x6 x7;have CT:Hid (∀W,CB 88 #[E #[I J x0,I J x1,I J x2,I J x3,I J x4,I J x5,I J x6,I J x7]] W (L ⟨(fS [x0,x1,x2,x3,x4,x5,x6,x7]).toArray⟩)):=fun W=>DC x0 x1 x2 x3 x4 x5 x6 x7 W
 have heq: ∀W,_:=eqA 9998 x0 x1 x2 x3 x4 x5 x6 x7 0 0 0 0 0 0 0 0;rw[show [0,0,0,0,0,0,0,0]=gI from rfl,show 9998+2=10000 from rfl]at heq;obtain ⟨O,hO⟩: ∃O,O=(w.alloc (G #[I J 3,L s,I J n,I J x0,I J x1,I J x2,I J x3,I J x4,I J x5,I J x6,I J x7] 26)).alloc (G #[I J 0,I J 0,I J 0,I J 0,I J 0,I J 0,I J 0,I J 0] 24):=⟨_,rfl⟩;have HL:Hid (∀W,Below O.heap.size O W->VU w W 3 s n x0 x1 x2 x3 x4 x5 x6 x7):=fun W h=>by rw[hO]at h;exact Eg w W _ _ _ x0 x1 x2 x3 x4 x5 x6 x7 _ _ h
 have HE:Hid (∀W,Below O.heap.size O W->Below w.heap.size w W):=fun W h=>by
  rw[hO]at h;exact (((ze _ w).alloc (zd _) _).alloc j2 _).trans (h.mono (by simp;omega))
 generalize (⟨(fS [x0,x1,x2,x3,x4,x5,x6,x7]).toArray⟩:ByteArray)=T at CT hie;generalize okG [x0,x1,x2,x3,x4,x5,x6,x7]=q at hie HZ0
 by_cases h0:s.size=0
 .have hem:=aS h0
  by_cases hr:n=0
  .have HZ:Hid (hOk ⟨3,s,n,[x0,x1,x2,x3,x4,x5,x6,x7]⟩=q):=by
    show _=_;rw[HZ0.out,decide_eq_true h0,decide_eq_true hr];rfl
   have CT1:Hid (Calls prog 88 #[E #[I J x0,I J x1,I J x2,I J x3,I J x4,I J x5,I J x6,I J x7]] O fun e w'=>e=Y (L T)/\Hid (Below O.heap.size O w')):=CT.out O;clear h0 HZ0;subst hr
   cases q with
   |true=>
    have hie':T.toList.isEmpty=false:=hie;clear hie;go_enter func38,ntmps38;go_wp2_with fail;rw[<-hO];refine CT1.out.mono ?_;rintro e w1 ⟨rfl,b1⟩;go_wp2_with fail;go_ret;exact ⟨by rw[HZ.out];rfl,HE.out _ b1.out⟩
   |false=>
    have hie':T.toList.isEmpty=true:=hie;clear hie;go_enter func38,ntmps38;go_wp2_with fail;rw[<-hO];refine CT1.out.mono ?_;rintro e w1 ⟨rfl,b1⟩;go_wp2_with fail;go_ret;exact ⟨by rw[HZ.out];rfl,HE.out _ b1.out⟩
  have HZ:Hid (hOk ⟨3,s,n,[x0,x1,x2,x3,x4,x5,x6,x7]⟩=false):=by
   show _=_;rw[HZ0.out,decide_eq_true h0,decide_eq_false hr];rfl
  have q0:(n==0)=false:=beq_eq_false_iff_ne.2 hr;clear h0 hr HZ0 hie;go_enter func38,ntmps38;go_wp2_with fail;go_ret;exact ⟨by rw[HZ.out];rfl,by go_grown⟩
 have HZ:Hid (hOk ⟨3,s,n,[x0,x1,x2,x3,x4,x5,x6,x7]⟩=false):=by
  show _=_;rw[HZ0.out,decide_eq_false h0];rfl
 have hem:=aW (by omega:0<s.size);clear h0 HZ0 hie;go_enter func38,ntmps38;go_wp2_with fail;go_ret;exact ⟨by rw[HZ.out];rfl,by go_grown⟩
theorem VY(k n:Int)(s:ByteArray)(x0 x1 x2 x3 x4 x5 x6 x7:Int)(w:World)(h1: ¬k=1)(h2: ¬k=2)(h3: ¬k=3):Calls prog 38 #[E #[I J k,L s,I J n,I J x0,I J x1,I J x2,I J x3,I J x4,I J x5,I J x6,I J x7]] w fun e w'=>e=Y (F (hOk ⟨k,s,n,[x0,x1,x2,x3,x4,x5,x6,x7]⟩))/\Below w.heap.size w w':=by
 have HZ:Hid (hOk ⟨k,s,n,[x0,x1,x2,x3,x4,x5,x6,x7]⟩=false):=Ef k n s _ h1 h2 h3;have q1:(k==1)=false:=beq_eq_false_iff_ne.2 h1;have q2:(k==2)=false:=beq_eq_false_iff_ne.2 h2;have q3:(k==3)=false:=beq_eq_false_iff_ne.2 h3;clear h1 h2 h3;go_enter func38,ntmps38;go_wp2_with fail;go_ret;exact ⟨by rw[HZ.out];rfl,by go_grown⟩
theorem IP(k n:Int)(s:ByteArray)(x0 x1 x2 x3 x4 x5 x6 x7:Int)(w:World)(hs:s.size<=1048576):Calls prog 38 #[E #[I J k,L s,I J n,I J x0,I J x1,I J x2,I J x3,I J x4,I J x5,I J x6,I J x7]] w fun e w'=>e=Y (F (hOk ⟨k,s,n,[x0,x1,x2,x3,x4,x5,x6,x7]⟩))/\Below w.heap.size w w':=by
 by_cases h1:k=1
 .subst h1;exact VV n s x0 x1 x2 x3 x4 x5 x6 x7 w hs
 by_cases h2:k=2
 .subst h2;exact VW n s x0 x1 x2 x3 x4 x5 x6 x7 w
 by_cases h3:k=3
 .subst h3;exact VX n s x0 x1 x2 x3 x4 x5 x6 x7 w
 exact VY k n s x0 x1 x2 x3 x4 x5 x6 x7 w h1 h2 h3
theorem zB(k n:Int)(s:ByteArray)(x0 x1 x2 x3 x4 x5 x6 x7:Int)(w:World)(hs:s.size<=1048576):Calls prog 118 #[E #[I J k,L s,I J n,I J x0,I J x1,I J x2,I J x3,I J x4,I J x5,I J x6,I J x7]] w fun e w'=>e=Y (L (hTx ⟨k,s,n,[x0,x1,x2,x3,x4,x5,x6,x7]⟩))/\Below w.heap.size w w':=by
 have CO:Hid (∀W,CB 38 #[E #[I J k,L s,I J n,I J x0,I J x1,I J x2,I J x3,I J x4,I J x5,I J x6,I J x7]] W (F (hOk ⟨k,s,n,[x0,x1,x2,x3,x4,x5,x6,x7]⟩))):=fun W=>IP k n s x0 x1 x2 x3 x4 x5 x6 x7 W hs
 cases hok:hOk ⟨k,s,n,[x0,x1,x2,x3,x4,x5,x6,x7]⟩with
 |false=>
  have HX:Hid (hTx ⟨k,s,n,[x0,x1,x2,x3,x4,x5,x6,x7]⟩=⟨#[]⟩):=YY hok;rw[hok]at CO;clear hok;go_enter func118,ntmps118;go_wp2_with fail;refine (CO.out _).mono ?_;rintro e w1 ⟨rfl,b1⟩;have HB1:Hid (Below (w.alloc (G #[I J k,L s,I J n,I J x0,I J x1,I J x2,I J x3,I J x4,I J x5,I J x6,I J x7] 26)).heap.size (w.alloc (G #[I J k,L s,I J n,I J x0,I J x1,I J x2,I J x3,I J x4,I J x5,I J x6,I J x7] 26)) w1):=b1;obtain ⟨c0,c1,c2,c3,c4,c5,c6,c7,c8,c9,c10⟩:=eB w w1 _ _ _ x0 x1 x2 x3 x4 x5 x6 x7 _ b1;have B1:Hid (Below w.heap.size w w1):=((ze _ w).alloc (zd _) _).trans (b1.mono j2);clear b1 HB1;go_wp2_with fail;go_ret;exact ⟨by rw[HX.out];rfl,B1.out⟩
 |true=>
  by_cases h1:k=1
  .subst h1
   have HX:Hid (hTx ⟨1,s,n,[x0,x1,x2,x3,x4,x5,x6,x7]⟩=s):=hTx1 hok;rw[hok]at CO;clear hok;go_enter func118,ntmps118;go_wp2_with fail;refine (CO.out _).mono ?_;rintro e w1 ⟨rfl,b1⟩;have HB1:Hid (Below (w.alloc (G #[I J 1,L s,I J n,I J x0,I J x1,I J x2,I J x3,I J x4,I J x5,I J x6,I J x7] 26)).heap.size (w.alloc (G #[I J 1,L s,I J n,I J x0,I J x1,I J x2,I J x3,I J x4,I J x5,I J x6,I J x7] 26)) w1):=b1;obtain ⟨c0,c1,c2,c3,c4,c5,c6,c7,c8,c9,c10⟩:=eB w w1 _ _ _ x0 x1 x2 x3 x4 x5 x6 x7 _ b1;have B1:Hid (Below w.heap.size w w1):=((ze _ w).alloc (zd _) _).trans (b1.mono j2);clear b1 HB1;go_wp2_with fail;go_ret;exact ⟨by rw[HX.out];rfl,B1.out⟩
  by_cases h2:k=2
  .subst h2
   have HX:Hid (hTx ⟨2,s,n,[x0,x1,x2,x3,x4,x5,x6,x7]⟩=fR n):=hTx2 hok;have hr:0<=n/\n<4294967296:=by
    have h:=hok;rw[hOk2,zh]at h;exact of_decide_eq_true h.1
   have CT:Hid (∀W,CB 170 #[I J n] W (L (fR n))):=fun W=>BN n W hr.1 hr.2
   generalize fR n=T at CT HX;rw[hok]at CO;clear hok hr h1;go_enter func118,ntmps118;go_wp2_with fail;refine (CO.out _).mono ?_;rintro e w1 ⟨rfl,b1⟩;have HB1:Hid (Below (w.alloc (G #[I J 2,L s,I J n,I J x0,I J x1,I J x2,I J x3,I J x4,I J x5,I J x6,I J x7] 26)).heap.size (w.alloc (G #[I J 2,L s,I J n,I J x0,I J x1,I J x2,I J x3,I J x4,I J x5,I J x6,I J x7] 26)) w1):=b1;obtain ⟨c0,c1,c2,c3,c4,c5,c6,c7,c8,c9,c10⟩:=eB w w1 _ _ _ x0 x1 x2 x3 x4 x5 x6 x7 _ b1;have B1:Hid (Below w.heap.size w w1):=((ze _ w).alloc (zd _) _).trans (b1.mono j2);clear b1 HB1;go_wp2_with fail;refine (CT.out _).mono ?_;rintro e w2 ⟨rfl,b2⟩;have B2:=B1.out.trans (b2.mono B1.out.size);clear b2;go_wp2_with fail;go_ret;exact ⟨by rw[HX.out];rfl,B2⟩
  by_cases h3:k=3
  .subst h3
   have HX:Hid (hTx ⟨3,s,n,[x0,x1,x2,x3,x4,x5,x6,x7]⟩=(⟨#[91]⟩:ByteArray)++⟨(fS [x0,x1,x2,x3,x4,x5,x6,x7]).toArray⟩++(⟨#[93]⟩:ByteArray)):=by
    show _=_;rw[hTx3 hok,IL]
   have hr:okG [x0,x1,x2,x3,x4,x5,x6,x7]=true:=by
    have h:=hok;rw[hOk3,zh]at h;exact h.1
   have hl:=QH hr;have CT:Hid (∀W,CB 88 #[E #[I J x0,I J x1,I J x2,I J x3,I J x4,I J x5,I J x6,I J x7]] W (L ⟨(fS [x0,x1,x2,x3,x4,x5,x6,x7]).toArray⟩)):=fun W=>DC x0 x1 x2 x3 x4 x5 x6 x7 W
   generalize (⟨(fS [x0,x1,x2,x3,x4,x5,x6,x7]).toArray⟩:ByteArray)=T at CT HX hl;have e1:(⟨#[91]⟩:ByteArray).size=1:=rfl;have e2:(⟨#[93]⟩:ByteArray).size=1:=rfl;rw[hok]at CO;clear hok hr h1 h2;go_enter func118,ntmps118;go_wp2_with fail;refine (CO.out _).mono ?_;rintro e w1 ⟨rfl,b1⟩;have HB1:Hid (Below (w.alloc (G #[I J 3,L s,I J n,I J x0,I J x1,I J x2,I J x3,I J x4,I J x5,I J x6,I J x7] 26)).heap.size (w.alloc (G #[I J 3,L s,I J n,I J x0,I J x1,I J x2,I J x3,I J x4,I J x5,I J x6,I J x7] 26)) w1):=b1;obtain ⟨c0,c1,c2,c3,c4,c5,c6,c7,c8,c9,c10⟩:=eB w w1 _ _ _ x0 x1 x2 x3 x4 x5 x6 x7 _ b1;have B1:Hid (Below w.heap.size w w1):=((ze _ w).alloc (zd _) _).trans (b1.mono j2);clear b1 HB1;go_wp2_with fail;refine (CT.out _).mono ?_;rintro e w2 ⟨rfl,b2⟩;have B2:=B1.out.trans (b2.mono B1.out.size);clear b2;go_wp2_with fail;go_ret;exact ⟨by rw[HX.out];rfl,B2⟩
  rw[Ef k n s _ h1 h2 h3]at hok
  cases hok
theorem IQ(s:Int)(w:World):Calls prog 66 #[I J s] w fun e w'=>e=Y (L ⟨(gH s).toArray⟩)/\w=w':=by
 by_cases h1:s=1
 .subst h1
  go_enter func66,ntmps66;go_wp2;go_ret;exact ⟨rfl,rfl⟩
 have q1:(s==1)=false:=beq_eq_false_iff_ne.2 h1;have HD:Hid ((⟨(gH s).toArray⟩:ByteArray)=⟨#[104,116,116,112,115,58]⟩):=by show _=_;unfold gH;rw[if_neg h1];rfl
 clear h1;go_enter func66,ntmps66;go_wp2;go_ret;exact ⟨bH HD.out.symm,rfl⟩
def iB(a:ByteArray)(q:Bool)(r:ByteArray):List UInt8:=if q then toL a++63::toL r else toL a
theorem VZ(s k n p:Int)(nm a r:ByteArray)(q:Bool)(x0 x1 x2 x3 x4 x5 x6 x7:Int)(w:World)(ha:a.size<=4194304)(hr:r.size<=4194304):Calls prog 61 #[E #[I J s,I J k,L nm,I J n,I J x0,I J x1,I J x2,I J x3,I J x4,I J x5,I J x6,I J x7,I J p,L a,F q,L r]] w fun e w'=>e=Y (L ⟨(iB a q r).toArray⟩)/\Below w.heap.size w w':=by
 cases q with
 |true=>
  have HD:Hid (a++⟨#[63]⟩++r=⟨(iB a true r).toArray⟩):=by
   apply bL;show toL (a++⟨#[63]⟩++r)=toL a++63::toL r;simp[toL]
  have hd1:(⟨#[63]⟩:ByteArray).size=1:=rfl;go_enter func61,ntmps61;go_wp2;go_ret;exact ⟨bH HD.out,(ze _ _).alloc (zd _) _⟩
 |false=>
  have HD:Hid (a=⟨(iB a false r).toArray⟩):=bL rfl;go_enter func61,ntmps61;go_wp2;go_ret;exact ⟨bH HD.out,(ze _ _).alloc (zd _) _⟩
def iL(x:Int):ByteArray:=⟨(iZ x.toNat).toArray⟩
theorem oL(x:Int):(iL x).size<=5:=by
 show (iZ x.toNat).toArray.size<=5;rw[zf];unfold iZ;split
 .simp
 split
 .simp
 split
 .simp
 split<;>simp
theorem ZC{x:Int}(h0:10<=x)(h1:x<100000):iL x=iL (x/10)++uP (x%10).toNat:=by
 apply bL;show iZ x.toNat=toL (iL (x/10)++uP (x%10).toNat);rw[qM om om,show x.toNat/10=(x/10).toNat by omega,show x.toNat%10=(x%10).toNat by omega];simp[toL,iL,uP,dgU]
theorem ZD(x:Int)(h0:10<=x)(h1:x<100000)(h: ∀W,Calls prog 119 #[I J (x/10)] W fun e w'=>e=Y (L (iL (x/10)))/\Below W.heap.size W w')(w:World):Calls prog 119 #[I J x] w fun e w'=>e=Y (L (iL x))/\Below w.heap.size w w':=
 KQ x w _ _ h0 h1 (oL _) h (ZC h0 h1)
theorem IR(x:Int)(h0:0<=x)(h1:x<10)(w:World):Calls prog 119 #[I J x] w fun e w'=>e=Y (L (iL x))/\Below w.heap.size w w':=by
 have e:iL x=iD x:=by
  unfold iL iD iZ bR;rw[if_pos om,if_pos om];rfl
 rw[e];exact tU x w h0 h1
theorem MV: ∀(d:Nat) (x:Int),0<=x->x<10^(d+1)->x<100000-> ∀w,Calls prog 119 #[I J x] w fun e w'=>e=Y (L (iL x))/\Below w.heap.size w w'
 |0,x,h0,h1,_,w=>IR x h0 (by simpa using h1) w
 |d+1,x,h0,h1,h2,w=>by
  by_cases h:x<10
  .exact IR x h0 h w
  refine ZD x om h2 (fun W=>MV d (x/10) om ?_ om W) w
  have:(10:Int)^(d+1+1)=10*10^(d+1):=by rw[Int.pow_succ,Int.mul_comm]
  omega
theorem QK(x:Int)(w:World)(h0:0<=x)(h1:x<100000):Calls prog 119 #[I J x] w fun e w'=>e=Y (L (iL x))/\Below w.heap.size w w':=
 MV 4 x h0 (by simpa using h1) h1 w
def fA(s:Int)(H:ByteArray)(p:Int):List UInt8:=gH s++47::47::(toL H++gC s p)
theorem nO(s:Int):(⟨(gH s).toArray⟩:ByteArray).size<=6:=by
 show (gH s).toArray.size<=6;rw[zf];unfold gH;split<;>decide
theorem IS(s k n p:Int)(nm a r:ByteArray)(q:Bool)(x0 x1 x2 x3 x4 x5 x6 x7:Int)(w:World)(hs:nm.size<=1048576)(hp0:0<=p)(hp1:p<100000):Calls prog 60 #[E #[I J s,I J k,L nm,I J n,I J x0,I J x1,I J x2,I J x3,I J x4,I J x5,I J x6,I J x7,I J p,L a,F q,L r]] w fun e w'=>e=Y (L ⟨(fA s (hTx ⟨k,nm,n,[x0,x1,x2,x3,x4,x5,x6,x7]⟩) p).toArray⟩)/\Below w.heap.size w w':=by
 have CS:Hid (∀W,CS 66 #[I J s] W (L ⟨(gH s).toArray⟩)):=fun W=>IQ s W
 have CH:Hid (∀W,CB 118 #[E #[I J k,L nm,I J n,I J x0,I J x1,I J x2,I J x3,I J x4,I J x5,I J x6,I J x7]] W (L (hTx ⟨k,nm,n,[x0,x1,x2,x3,x4,x5,x6,x7]⟩))):=fun W=>zB k n nm x0 x1 x2 x3 x4 x5 x6 x7 W hs
 have CD:Hid (∀W,Calls prog 37 #[I J s] W fun e w'=>e=Y (I J (bS s))/\W=w'):=fun W=>jM s W
 have CT:Hid (∀W,CB 119 #[I J p] W (L (iL p))):=fun W=>QK p W hp0 hp1
 have hts:=tE (k:=k) (n:=n) (s:=nm) (x0:=x0) (x1:=x1) (x2:=x2) (x3:=x3) (x4:=x4) (x5:=x5) (x6:=x6) (x7:=x7) hs;have hss:=nO s;have hds:=oL p;generalize hTx ⟨k,nm,n,[x0,x1,x2,x3,x4,x5,x6,x7]⟩=T at CH hts⊢;have H0:Hid (gC s p=[]->(⟨(gH s).toArray⟩:ByteArray)++⟨#[47,47]⟩++T=⟨(fA s T p).toArray⟩):=fun h=>by
  apply bL;show toL _=fA s T p;unfold fA;rw[h];simp[toL]
 have H1:Hid (gC s p=58::iZ p.toNat->(⟨(gH s).toArray⟩:ByteArray)++⟨#[47,47]⟩++T++⟨#[58]⟩++iL p=⟨(fA s T p).toArray⟩):=fun h=>by
  apply bL;show toL _=fA s T p;unfold fA;rw[h];simp[toL,iL]
 have HP:Hid ((p=bS s->gC s p=[])/\(¬p=bS s->gC s p=58::iZ p.toNat)):=by
  unfold gC;exact ⟨fun h=>if_pos h,fun h=>if_neg h⟩
 generalize (⟨(gH s).toArray⟩:ByteArray)=S at CS hss H0 H1;generalize iL p=D at CT hds H1;generalize (⟨(fA s T p).toArray⟩:ByteArray)=Z at H0 H1⊢;have HDP:Hid ((p=bS s)∨ ¬(p=bS s)):=Decidable.em _;generalize bS s=dp at CD HP HDP;generalize gC s p=pt at H0 H1 HP;obtain ⟨O,hO⟩: ∃O,O=w.alloc (G #[I J s,I J k,L nm,I J n,I J x0,I J x1,I J x2,I J x3,I J x4,I J x5,I J x6,I J x7,I J p,L a,F q,L r] 28):=⟨_,rfl⟩;have HU:Hid (UAt O w.heap.size (aA s k nm n x0 x1 x2 x3 x4 x5 x6 x7 p a q r)):=by
  rw[hO];exact UAt.new w _ _
 have HB:Hid (Below w.heap.size w O):=by
  rw[hO];exact (ze _ w).alloc (zd _) _
 go_enter func60,ntmps60
 go_upto_region 1 with fail
 rw[<-hO];clear hO
 go_cut [3] (fun v wx=>v=L (S++⟨#[47,47]⟩++T)/\Hid (UAt wx w.heap.size (aA s k nm n x0 x1 x2 x3 x4 x5 x6 x7 p a q r))/\Hid (Below w.heap.size w wx))
 case first=>
  have hu:=HU.out.1;have c0:=hu 0 _ rfl;have c1:=hu 1 _ rfl;have c2:=hu 2 _ rfl;have c3:=hu 3 _ rfl;have c4:=hu 4 _ rfl;have c5:=hu 5 _ rfl;have c6:=hu 6 _ rfl;have c7:=hu 7 _ rfl;have c8:=hu 8 _ rfl;have c9:=hu 9 _ rfl;have c10:=hu 10 _ rfl;have c11:=hu 11 _ rfl;clear hu;have HUD:Hid (UAt O.drew w.heap.size (aA s k nm n x0 x1 x2 x3 x4 x5 x6 x7 p a q r)):=HU.out;have HBD:Hid (Below w.heap.size w O.drew):=HB.out.drew
  go_region_with (first|(go_at_call 66;refine (CS.out _).mono ?_;rintro e wq ⟨rfl,rfl⟩)|(go_at_call 118;refine (CH.out _).mono ?_;rintro e wq ⟨rfl,hbq⟩;have HUQ:Hid (UAt wq w.heap.size (aA s k nm n x0 x1 x2 x3 x4 x5 x6 x7 p a q r)):=HUD.out.below hbq;have HBQ:Hid (Below w.heap.size w wq):=HBD.out.trans (hbq.mono HBD.out.size);have g0:=HUQ.out.1 0 _ rfl;clear hbq))
  all_goals go_wp2_with fail
  all_goals go_meet
  all_goals exact ⟨rfl,HUQ,HBQ⟩
 obtain ⟨rfl,HU2,HB2⟩:=hcut;clear HU HB CS CH;have hd2:(⟨#[47,47]⟩:ByteArray).size=2:=rfl;have hs2:(S++⟨#[47,47]⟩++T).size<=1048584:=by rw[zm,zm,hd2];omega
 generalize S++⟨#[47,47]⟩++T=S2 at hs2 H0 H1⊢;clear hts hss hd2 hs;have c0:=HU2.out.1 0 _ rfl;have c12:=HU2.out.1 12 _ rfl
 go_upto_region 2 with fail
 have HUD:Hid (UAt wc.drew w.heap.size (aA s k nm n x0 x1 x2 x3 x4 x5 x6 x7 p a q r)):=HU2.out;have HBD:Hid (Below w.heap.size w wc.drew):=HB2.out.drew
 go_cut [17] (fun v wx=>v=F (p !=dp)/\Hid (UAt wx w.heap.size (aA s k nm n x0 x1 x2 x3 x4 x5 x6 x7 p a q r))/\Hid (Below w.heap.size w wx))
 case first=>
  go_region_with (go_at_call 37;refine j3 CD ?_)
  all_goals go_wp2_with fail
  all_goals go_meet
  all_goals exact ⟨rfl,HUD,HBD⟩
 obtain ⟨rfl,HU3,HB3⟩:=hcut;clear HUD HBD HU2 HB2 c0 c12 CD
 rcases HDP.out with h|h
 .have hq:(p !=dp)=false:=by rw[h];exact bne_self_eq_false _
  have HZ:Hid (S2=Z):=H0.out (HP.out.1 h);rw[hq];clear H0 H1 HP hq HDP h CT;go_wp2;go_ret;exact ⟨bH HZ.out,HB3.out⟩
 have hq:(p !=dp)=true:=bne_iff_ne.2 h;have HZ:Hid (S2++⟨#[58]⟩++D=Z):=H1.out (HP.out.2 h);rw[hq];have hd1:(⟨#[58]⟩:ByteArray).size=1:=rfl;have c12:=HU3.out.1 12 _ rfl;clear H0 H1 HP hq HDP h;go_wp2_with fail;refine (CT.out _).mono ?_;rintro e wd ⟨rfl,bd⟩;have BD:Below w.heap.size w wd:=HB3.out.trans (bd.mono HB3.out.size);clear bd c12;go_wp2;go_ret;exact ⟨bH HZ.out,BD⟩
