/- Par6Spec, Grp6Spec. -/
import Derived.Test.YtgcbaphbiaimoaaGreatDoorQF11
set_option maxHeartbeats 8000000
set_option maxRecDepth 20000
namespace Go.Proofs.YtgcbaphbiaimoaaGreatDoor
open Go.Value renaming int->I,string->L
open Go.IntKind renaming i64->J
open _root_.Go.RowKit.Below renaming refl->zj
open _root_.ByteArray renaming empty->za
open _root_.List renaming drop_eq_getElem_cons->zg,drop_of_length_le->zh,eq_nil_of_length_eq_zero->ze,length_append->zc
open _root_.Nat renaming le_refl->zi,lt_of_lt_of_le->zd
open _root_.Go.World renaming cell?_of_block->zf
open _root_.Go.Proofs.Tryz
open _root_.Go.Proofs.YtgcbaphbiaimoaaGreatDoor.Tryz
open Go.RowKit
def iD:List UInt8->Option Nat
 |[]=>none
 |c::r=>if c=58/\r.head? =some 58 then some 0 else (iD r).map (· +1)
theorem AV: ∀l,cH l=(iD l).map fun k=>(l.take k,l.drop (k+2))
 |[]=>rfl
 |c::r=>by
  rw[cH,iD,AV r];split
  .cases r<;>simp
  cases iD r<;>simp
theorem R9: ∀{l:List UInt8} {k:Nat},iD l=some k->k+2<=l.length
 |[],k,h=>by cases h
 |c::r,k,h=>by
  rw[iD]at h;split at h
  .rename_i hc
   cases h
   cases r with
   |nil=>simp at hc
   |cons d q=>simp
  cases hr:iD r with
  |none=>rw[hr]at h;cases h
  |some j=>
   rw[hr]at h
   cases h
   have:=R9 hr
   simp;omega
theorem S0(s:ByteArray)(k:Nat)(h:k+1<s.size):iD (s.data.toList.drop k)=if s[k].toNat=58/\s[k+1].toNat=58 then some 0 else (iD (s.data.toList.drop (k+1))).map (· +1):=by
 have h1:s.data.toList.drop k=s[k]::s.data.toList.drop (k+1):=zg (by simp;omega);have h2:s.data.toList.drop (k+1)=s[k+1]::s.data.toList.drop (k+1+1):=zg (by simp;omega);rw[h1,iD];have h3:(s.data.toList.drop (k+1)).head? =some s[k+1]:=by rw[h2];rfl
 rw[h3]
 by_cases hc:s[k].toNat=58/\s[k+1].toNat=58
 .rw[if_pos hc,if_pos ⟨lN hc.1,by rw[lN (d:=58) hc.2]⟩]
 rw[if_neg hc,if_neg];rintro ⟨a,b⟩;apply hc;injection b with b;exact ⟨by rw[a];rfl,by rw[b];rfl⟩
theorem Dg(s:ByteArray)(k:Nat)(h: ¬k+1<s.size):iD (s.data.toList.drop k)=none:=by
 have hl:(s.data.toList.drop k).length<=1:=by simp;omega
 match hd:s.data.toList.drop k,hl with
 |[],_=>rfl
 |[c],_=>simp[iD]
 |_::_::_,hl=>simp at hl
def GG(r:Option Nat):Int:=match r with
 |none=> -1
 |some k=>k
theorem UL(s:ByteArray)(w:World)(hs:s.size<=1048576):Calls prog 167 #[L s] w fun e w'=>e=.returned (I J (GG (iD s.data.toList)))/\Below w.heap.size w w':=by
 go_enter func167,ntmps167;go_wp2
 go_loopw[3] (fun i wr=> ∃k:Nat,k<=s.size/\i=I J k/\iD s.data.toList=(iD (s.data.toList.drop k)).map (· +k)/\Below w.heap.size w wr) (fun i _=>s.size-(intOf i).toNat)
 case atStart=>exact ⟨0,Nat.zero_le _,rfl,by simp,zj _ _⟩
 obtain ⟨k,hk,rfl,hd,hbel⟩:=hrel;have HD:Hid (iD s.data.toList=(iD (s.data.toList.drop k)).map (· +k)):=hd;clear hd
 by_cases hlt:k+1<s.size
 .obtain ⟨c,hc⟩: ∃c:Nat,s[k].toNat=c:=⟨_,rfl⟩
  obtain ⟨d,hd⟩: ∃d:Nat,s[k+1].toNat=d:=⟨_,rfl⟩;have HS:Hid (iD (s.data.toList.drop k)=if c=58/\d=58 then some 0 else (iD (s.data.toList.drop (k+1))).map (· +1)):=by
   show _=_;rw[S0 s k hlt,hc,hd]
  have hki:(k:Int)+1<(s.size:Int):=om
  by_cases hcd:c=58/\d=58
  .have HZ:Hid (iD s.data.toList=some k):=by
    show _=_;rw[HD.out,HS.out,if_pos hcd];simp
   obtain ⟨rfl,rfl⟩:=hcd;go_wp2_with fail;go_ret;exact ⟨by rw[HZ.out];rfl,hbel⟩
  have HG:Hid (iD s.data.toList=(iD (s.data.toList.drop (k+1))).map (· +(k+1))):=by
   show _=_;rw[HD.out,HS.out,if_neg hcd]
   cases iD (s.data.toList.drop (k+1))<;>simp<;>omega
  by_cases hc5:c=58
  .have hd5:((d:Int)==58)=false:=by simp;omega
   subst hc5;clear hcd;go_wp2_with fail;go_roundw
   case rel=>exact ⟨k+1,om,gn,HG.out,hbel⟩
   case measure=>exact j1
  have hc5':((c:Int)==58)=false:=by simp;omega
  clear hcd hc5;go_wp2_with fail;go_roundw
  case rel=>exact ⟨k+1,om,gn,HG.out,hbel⟩
  case measure=>exact j1
 have HZ:Hid (iD s.data.toList=none):=by
  show _=_;rw[HD.out,Dg s k hlt];rfl
 have hki: ¬(k:Int)+1<(s.size:Int):=om;go_wp2_with fail;go_ret;exact ⟨by rw[HZ.out];rfl,hbel⟩
theorem Tryz.infoI5:(prog.info? 3).map (fun i=>(i.zero,i.size,i.bytes))=some (some (I J 0),1,8):=kr
def toI(gs:List Nat):List Int:=gs.map (fun n:Nat=>(n:Int))
theorem wJ(gs:List Nat)(n:Nat):toI (gs++[n])=toI gs++[(n:Int)]:=by simp[toI]
theorem fR(gs:List Nat):(toI gs).length=gs.length:=by simp[toI]
def LW(w w':World)(r:Option (List Nat))(e:Ending):Prop:=
 ∃(v:Value) (l:List Nat),e=.returned (.tuple #[v,.bool r.isSome])/\w'.ownsRow w.heap.size 3 1 v l.length (aL (toI l))/\l.length<=1048580/\ ∀gs,r=some gs->l=gs
theorem PW(t:Bool)(fs:List ByteArray)(k:Nat)(h:k<fs.length):grp t ((fs.drop k).map toL)=match (if t=true/\k+1=fs.length then p4 (toL (fs.getD k za))else none)with
  |some n=>some [n/65536,n%65536]
  |none=>match g16 (toL (fs.getD k za))with
   |none=>none
   |some v=>(grp t ((fs.drop (k+1)).map toL)).map (v:: ·):=by
 rw[jW fs k h,List.map_cons,grp];have e:(t&&((fs.drop (k+1)).map toL).isEmpty)=decide (t=true/\k+1=fs.length):=by
  have e2:((fs.drop (k+1)).map toL).isEmpty=decide (k+1=fs.length):=by
   by_cases h2:k+1=fs.length
   .rw[decide_eq_true h2,zh om];rfl
   rw[decide_eq_false h2,jW fs (k+1) om];rfl
  rw[e2]
  cases t<;>simp
 rw[e]
 by_cases c:t=true/\k+1=fs.length
 .rw[decide_eq_true c,if_pos c];rfl
 rw[decide_eq_false c,if_neg c];rfl
theorem XL(t:Bool)(fs:List ByteArray)(k:Nat)(h: ¬k<fs.length):grp t ((fs.drop k).map toL)=some []:=by
 rw[zh om];rfl
theorem AW{y:ByteArray}(h:y.size=0):g16 (toL y)=none:=by
 have:toL y=[]:=ze (by simpa[toL] using h)
 rw[this];rfl
theorem AX{y:ByteArray}(h:0<y.size):g16 (toL y)=cU 16 4 (toL y):=by
 unfold g16;rw[show (toL y).isEmpty=false by unfold toL;rw[lW y h];rfl];rfl
theorem DX{l:List UInt8}{v:Nat}(h:cU 16 4 l=some v):v<65536:=by
 have key: ∀(l:List UInt8) (n:Nat) (m v:Nat),n<16^m->eU 16 n l=some v->v<16^(m+l.length):=by
  intro l
  induction l with
  |nil=>intro n m v hn h;cases h;simpa using hn
  |cons c r ih=>
   intro n m v hn h;rw[eU]at h;split at h
   .rename_i hc
    have:=ih _ (m+1) v (BP (base:=16) om om hn) h
    rw[List.length_cons,show m+(r.length+1)=m+1+r.length by omega];exact this
   cases h
 unfold cU at h;split at h
 .rename_i hl
  have h1:=key l 0 0 v de h;exact zd h1 (Nat.le_trans (Nat.pow_le_pow_right (n:=16) (j:=4) de om) de)
 cases h
theorem PX{t:Bool}{s:ByteArray}(h:s.size=0):cX t s.data.toList=some []:=by
 have:s.data.toList=[]:=ze (by simpa using h)
 rw[this];rfl
theorem zK{t:Bool}{s:ByteArray}(h:0<s.size):cX t s.data.toList=grp t ((aA s 58).map toL):=by
 unfold cX;rw[show s.data.toList.isEmpty=false by rw[lW s h];rfl,TR];rfl
theorem rX(s:ByteArray)(hs:s.size<=1048576): ∀x∈aA s 58,x.size<=1048576:=fun x hx=>Nat.le_trans (kI s 58 x hx) hs
theorem uM(s:ByteArray)(t:Bool)(w:World)(hs:s.size<=1048576):Calls prog 168 #[L s,.bool t] w fun e w'=>LW w w' (cX t s.data.toList) e/\Below w.heap.size w w':=by
 have HO:(w.alloc (.cells #[] 3)).ownsRow w.heap.size 3 1 (.slice (some ⟨w.heap.size,0,none⟩) 0 0) 0 []:=World.ownsRow_lit w #[] 0 (zi _) de rfl
 by_cases h0:s.size=0
 .have hem:=aV h0
  have HZ:Hid (cX t s.data.toList=some []):=PX h0;clear h0;go_enter func168,ntmps168;go_wp2_with fail;go_ret2;exact ⟨⟨_,[],by rw[HZ.out];rfl,HO,by simp,fun gs h=>by rw[HZ.out]at h;cases h;rfl⟩,(zj _ _).alloc (zi _) _⟩
 have hp:0<s.size:=om;have hem:=aX hp;have HF:Hid (cX t s.data.toList=grp t ((aA s 58).map toL)):=zK hp;have hpos:0<(aA s 58).length:=by simp[aA]
 have hlen:(aA s 58).length<=1048577:=by
  have:=(dL s 58 s.size).2
  simp[aA];omega
 have HSZ:Hid (∀x∈aA s 58,x.size<=1048576):=rX s hs;have CF:Hid (∀W,Calls prog 93 #[L s,.int .u8 58] W fun e w'=> ∃v,e=.returned v/\w'.ownsRow W.heap.size 9 1 v (aA s 58).length (aM (aA s 58))/\Below W.heap.size W w'):=fun W=>mX s 58 W hs
 generalize aA s 58=fs at HF hpos hlen HSZ CF;clear h0;go_enter func168,ntmps168;go_wp2_with fail;refine (CF.out _).mono ?_;rintro e wa ⟨va,rfl,oa,ba⟩;have OA:=aH HO ba
 rcases aQ oa with ⟨h,_⟩|⟨_,g,cap,rfl⟩
 .omega
 have hg:=(oa.lt g rfl).1;have hg2:=(oa.lt g rfl).2;have B0:Below w.heap.size w wa:=((zj _ w).alloc (zi _) _).trans (ba.mono j2);have HC0:Hid (∀j,j<fs.length->wa.cell? ⟨g,j,none⟩=some (L (fs.getD j za))):=fun j hj=>bY oa j hj
 clear ba HO oa CF;go_wp2_with fail
 go_loopw[6,8] (fun v i wr=> ∃(k:Nat) (acc:List Nat),k<=fs.length/\i=I J k/\acc.length<=k/\grp t (fs.map toL)=(grp t ((fs.drop k).map toL)).map (acc++ ·)/\wr.ownsRow w.heap.size 3 1 v acc.length (aL (toI acc))/\(∀j,j<fs.length->wr.cell? ⟨g,j,none⟩=some (L (fs.getD j za)))/\some g≠v.ownBlock/\g<wr.heap.size/\Below w.heap.size w wr)
  (fun _ i _=>fs.length-(intOf i).toNat)
 case atStart=>
  refine ⟨0,[],Nat.zero_le _,rfl,by simp,by simp,OA,HC0.out,?_,hg2,B0⟩;simp[Value.ownBlock];simp at hg;omega
 obtain ⟨k,acc,hk,rfl,hal,hr,ow,hcell,hne,hgl,hbel⟩:=hrel;have HR:Hid (grp t (fs.map toL)=(grp t ((fs.drop k).map toL)).map (acc++ ·)):=hr;have HCL:Hid (∀j,j<fs.length->wr.cell? ⟨g,j,none⟩=some (L (fs.getD j za))):=hcell;have hsz:=hbel.size;clear hr OA B0 HC0
 by_cases hlt:k<fs.length
 .have hc:=hcell k hlt
  have hsy:=HSZ.out _ (nA (k:=k) hlt);have HS:Hid (_=_):=PW t fs k hlt;have CP:Hid (∀W,CB 219 #[L (fs.getD k za)] W (eN (p4 (toL (fs.getD k za))))):=fun W=>LU _ W hsy
  have CN:Hid (∀W,CS 57 #[L (fs.getD k za),I J 16,I J 4] W (I J (eM (cU 16 4 (toL (fs.getD k za)))))):=fun W=>kW _ 16 4 W om om
  have HCK:Hid (∀W,Below wr.heap.size wr W->W.cell? ⟨g,k,none⟩=some (L (fs.getD k za))):=fun W hb=>cell_later hb (HCL.out k hlt)
  clear hcell;generalize fs.getD k za=y at hc hsy HS CP CN HCK;have hki:(k:Int)<(fs.length:Int):=om;clear hsy;go_wp2_with fail;refine (CP.out _).mono ?_;rintro e wb ⟨rfl,bb⟩;have hcb:=HCK.out _ bb;have o2:=aH ow bb;have B2:=hbel.trans (bb.mono hsz);have z2:=B2.size;have hgl2:g<wb.heap.size:=zd hgl bb.size;have HC2:Hid (∀j,j<fs.length->wb.cell? ⟨g,j,none⟩=some (L (fs.getD j za))):=fun j hj=>cell_later bb (HCL.out j hj)
  clear hc ow hbel bb HCL HCK
  cases hp4:p4 (toL y)with
  |none=>
   have HN0:Hid ((if t=true/\k+1=fs.length then p4 (toL y)else none)=none):=by
    show _=_;rw[hp4];split<;>rfl
   clear hp4;simp only[eN]
   by_cases he:y.size=0
   .have HZ:Hid (cX t s.data.toList=none):=by
     show _=_;rw[HF.out,HR.out,HS.out,HN0.out,AW he];rfl
    have hem:=aV he;clear he;generalize eM (cU 16 4 (toL y))=zz at CN;go_wp2_with fail;refine (CN.out _).mono ?_;rintro e w' ⟨rfl,rfl⟩;go_wp2_with fail;go_ret2;exact ⟨⟨_,acc,by rw[HZ.out];rfl,o2,om,fun gs h=>by rw[HZ.out]at h;cases h⟩,B2⟩
   have hpy:0<y.size:=om;have hem:=aX hpy;have HS1:Hid (g16 (toL y)=cU 16 4 (toL y)):=AX hpy;clear he
   cases hv:cU 16 4 (toL y)with
   |none=>
    rw[hv]at CN HS1;have HZ:Hid (cX t s.data.toList=none):=by
     show _=_;rw[HF.out,HR.out,HS.out,HN0.out,HS1.out];rfl
    clear hv;go_wp2_with fail;refine (CN.out _).mono ?_;rintro e w' ⟨rfl,rfl⟩;simp only[eM];go_wp2_with fail;go_ret2;exact ⟨⟨_,acc,by rw[HZ.out];rfl,o2,om,fun gs h=>by rw[HZ.out]at h;cases h⟩,B2⟩
   |some v=>
    have hvl:=DX hv;rw[hv]at CN HS1;have HG:Hid (grp t (fs.map toL)=(grp t ((fs.drop (k+1)).map toL)).map ((acc++[v])++ ·)):=by
     show _=_;rw[HR.out,HS.out,HN0.out,HS1.out];simp only
     cases grp t ((fs.drop (k+1)).map toL)<;>simp
    clear hv;obtain ⟨x,hx⟩: ∃x:Int,(v:Int)=x:=⟨_,rfl⟩;have HX:Hid ((v:Int)=x):=hx;have hx0: ¬x<0:=om;clear hx hvl;go_wp2_with fail;refine (CN.out _).mono ?_;rintro e w' ⟨rfl,rfl⟩;simp only[eM];rw[HX.out];go_wp2_with (at_builtin;refine eB _ rfl _ _ 95 rfl w.heap.size 3 (I J 0) 8 underlying95 infoI5 rfl _ _ _ rfl o2 #[I J x] 1 rfl rfl (by intro u hu;simp at hu;subst hu;rfl) om (by unfold maxLen;omega) z2 ?_);intro v' w1 ow' gr hat;have R:w1.ownsRow w.heap.size 3 1 v' (acc++[v]).length (aL (toI (acc++[v]))):=by
     rw[wJ,HX.out,kU,zc];exact ow'
    have B3:Below w.heap.size w w1:=B2.grown gr z2 (fun k hk=>(o2.lt k hk).1);have hgw:w1.heap[g]? =wb.heap[g]? :=gr.block g hgl2 hne;have C1:Hid (∀j,j<fs.length->w1.cell? ⟨g,j,none⟩=some (L (fs.getD j za))):=fun j hj=>
     (zf (w:=wb) (a:=⟨g,j,none⟩) hgw).trans (HC2.out j hj)
    have hne1:some g≠v'.ownBlock:=by
     rcases hat with h|h
     .rw[h];exact hne
     rw[h];intro h2;cases h2;omega
    have hgl1:g<w1.heap.size:=zd hgl2 gr.size;clear o2 ow' gr hat B2 hgw HC2;go_wp2_with fail;go_roundw
    case rel=>exact ⟨k+1,acc++[v],om,gn,by rw[zc];simp;omega,HG.out,R,C1.out,hne1,hgl1,B3⟩
    case measure=>exact j1
  |some n=>
   have hn4:=(nX hp4).1
   by_cases hit:t=true/\k+1=fs.length
   .obtain ⟨rfl,hk1⟩:=hit
    have HZ:Hid (cX true s.data.toList=some (acc++[n/65536,n%65536])):=by
     show _=_;rw[HF.out,HR.out,HS.out,if_pos ⟨rfl,hk1⟩,hp4];rfl
    have hkq:((k:Int)==(fs.length:Int)-1)=true:=by simp;omega
    obtain ⟨x,hx⟩: ∃x:Int,(n:Int)=x:=⟨_,rfl⟩;have HX:Hid ((n:Int)=x):=hx;have hx0:0<=x:=om;have hx1:x<4294967296:=om;have b2:bits .and .i64 x 65535=x%65536:=sM 16 65535 rfl _ om om de;clear hp4 hn4 hx;simp only[eN];rw[HX.out];go_wp2_with (at_builtin;refine aB _ rfl _ _ 95 rfl w.heap.size 3 (I J 0) 8 underlying95 infoI5 rfl _ _ _ rfl o2 #[I J (x/65536),I J (x%65536)] 2 rfl rfl (by intro u hu;simp at hu;rcases hu with rfl|rfl<;>rfl) om (by unfold maxLen;omega) z2 ?_);intro v' w1 ow' b3;have R:w1.ownsRow w.heap.size 3 1 v' (acc++[n/65536,n%65536]).length (aL (toI (acc++[n/65536,n%65536]))):=by
     have e1:((n/65536:Nat):Int)=x/65536:=by have:=HX.out;omega
     have e2:((n%65536:Nat):Int)=x%65536:=by have:=HX.out;omega
     have e3:aL (toI (acc++[n/65536,n%65536]))=aL (toI acc)++[I J (x/65536),I J (x%65536)]:=by
      simp only[toI,aL,List.map_append,List.map_cons,List.map_nil,e1,e2]
     rw[e3,zc];exact ow'
    have B3:=B2.trans b3;clear ow' b3 o2 B2;go_wp2_with fail;go_ret2;exact ⟨⟨_,_,by rw[HZ.out];rfl,R,by rw[zc];simp;omega,fun gs h=>by rw[HZ.out]at h;cases h;rfl⟩,B3⟩
   have HN0:Hid ((if t=true/\k+1=fs.length then p4 (toL y)else none)=none):=by
    show _=_;rw[if_neg hit]
   clear hp4 hn4;simp only[eN]
   cases t with
   |false=>
    clear hit
    by_cases he:y.size=0
    .have HZ:Hid (cX false s.data.toList=none):=by
      show _=_;rw[HF.out,HR.out,HS.out,HN0.out,AW he];rfl
     have hem:=aV he;clear he;generalize eM (cU 16 4 (toL y))=zz at CN;go_wp2_with fail;refine (CN.out _).mono ?_;rintro e w' ⟨rfl,rfl⟩;go_wp2_with fail;go_ret2;exact ⟨⟨_,acc,by rw[HZ.out];rfl,o2,om,fun gs h=>by rw[HZ.out]at h;cases h⟩,B2⟩
    have hpy:0<y.size:=om;have hem:=aX hpy;have HS1:Hid (g16 (toL y)=cU 16 4 (toL y)):=AX hpy;clear he
    cases hv:cU 16 4 (toL y)with
    |none=>
     rw[hv]at CN HS1;have HZ:Hid (cX false s.data.toList=none):=by
      show _=_;rw[HF.out,HR.out,HS.out,HN0.out,HS1.out];rfl
     clear hv;go_wp2_with fail;refine (CN.out _).mono ?_;rintro e w' ⟨rfl,rfl⟩;simp only[eM];go_wp2_with fail;go_ret2;exact ⟨⟨_,acc,by rw[HZ.out];rfl,o2,om,fun gs h=>by rw[HZ.out]at h;cases h⟩,B2⟩
    |some v=>
     have hvl:=DX hv;rw[hv]at CN HS1;have HG:Hid (grp false (fs.map toL)=(grp false ((fs.drop (k+1)).map toL)).map ((acc++[v])++ ·)):=by
      show _=_;rw[HR.out,HS.out,HN0.out,HS1.out];simp only
      cases grp false ((fs.drop (k+1)).map toL)<;>simp
     clear hv;obtain ⟨x,hx⟩: ∃x:Int,(v:Int)=x:=⟨_,rfl⟩;have HX:Hid ((v:Int)=x):=hx;have hx0: ¬x<0:=om;clear hx hvl;go_wp2_with fail;refine (CN.out _).mono ?_;rintro e w' ⟨rfl,rfl⟩;simp only[eM];rw[HX.out];go_wp2_with (at_builtin;refine eB _ rfl _ _ 95 rfl w.heap.size 3 (I J 0) 8 underlying95 infoI5 rfl _ _ _ rfl o2 #[I J x] 1 rfl rfl (by intro u hu;simp at hu;subst hu;rfl) om (by unfold maxLen;omega) z2 ?_);intro v' w1 ow' gr hat;have R:w1.ownsRow w.heap.size 3 1 v' (acc++[v]).length (aL (toI (acc++[v]))):=by
      rw[wJ,HX.out,kU,zc];exact ow'
     have B3:Below w.heap.size w w1:=B2.grown gr z2 (fun k hk=>(o2.lt k hk).1);have hgw:w1.heap[g]? =wb.heap[g]? :=gr.block g hgl2 hne;have C1:Hid (∀j,j<fs.length->w1.cell? ⟨g,j,none⟩=some (L (fs.getD j za))):=fun j hj=>
      (zf (w:=wb) (a:=⟨g,j,none⟩) hgw).trans (HC2.out j hj)
     have hne1:some g≠v'.ownBlock:=by
      rcases hat with h|h
      .rw[h];exact hne
      rw[h];intro h2;cases h2;omega
     have hgl1:g<w1.heap.size:=zd hgl2 gr.size;clear o2 ow' gr hat B2 hgw HC2;go_wp2_with fail;go_roundw
     case rel=>exact ⟨k+1,acc++[v],om,gn,by rw[zc];simp;omega,HG.out,R,C1.out,hne1,hgl1,B3⟩
     case measure=>exact j1
   |true=>
    have hkq:((k:Int)==(fs.length:Int)-1)=false:=by
     have h2: ¬k+1=fs.length:=fun h=>hit ⟨rfl,h⟩
     simp;omega
    clear hit
    by_cases he:y.size=0
    .have HZ:Hid (cX true s.data.toList=none):=by
      show _=_;rw[HF.out,HR.out,HS.out,HN0.out,AW he];rfl
     have hem:=aV he;clear he;generalize eM (cU 16 4 (toL y))=zz at CN;go_wp2_with fail;refine (CN.out _).mono ?_;rintro e w' ⟨rfl,rfl⟩;go_wp2_with fail;go_ret2;exact ⟨⟨_,acc,by rw[HZ.out];rfl,o2,om,fun gs h=>by rw[HZ.out]at h;cases h⟩,B2⟩
    have hpy:0<y.size:=om;have hem:=aX hpy;have HS1:Hid (g16 (toL y)=cU 16 4 (toL y)):=AX hpy;clear he
    cases hv:cU 16 4 (toL y)with
    |none=>
     rw[hv]at CN HS1;have HZ:Hid (cX true s.data.toList=none):=by
      show _=_;rw[HF.out,HR.out,HS.out,HN0.out,HS1.out];rfl
     clear hv;go_wp2_with fail;refine (CN.out _).mono ?_;rintro e w' ⟨rfl,rfl⟩;simp only[eM];go_wp2_with fail;go_ret2;exact ⟨⟨_,acc,by rw[HZ.out];rfl,o2,om,fun gs h=>by rw[HZ.out]at h;cases h⟩,B2⟩
    |some v=>
     have hvl:=DX hv;rw[hv]at CN HS1;have HG:Hid (grp true (fs.map toL)=(grp true ((fs.drop (k+1)).map toL)).map ((acc++[v])++ ·)):=by
      show _=_;rw[HR.out,HS.out,HN0.out,HS1.out];simp only
      cases grp true ((fs.drop (k+1)).map toL)<;>simp
     clear hv;obtain ⟨x,hx⟩: ∃x:Int,(v:Int)=x:=⟨_,rfl⟩;have HX:Hid ((v:Int)=x):=hx;have hx0: ¬x<0:=om;clear hx hvl;go_wp2_with fail;refine (CN.out _).mono ?_;rintro e w' ⟨rfl,rfl⟩;simp only[eM];rw[HX.out];go_wp2_with (at_builtin;refine eB _ rfl _ _ 95 rfl w.heap.size 3 (I J 0) 8 underlying95 infoI5 rfl _ _ _ rfl o2 #[I J x] 1 rfl rfl (by intro u hu;simp at hu;subst hu;rfl) om (by unfold maxLen;omega) z2 ?_);intro v' w1 ow' gr hat;have R:w1.ownsRow w.heap.size 3 1 v' (acc++[v]).length (aL (toI (acc++[v]))):=by
      rw[wJ,HX.out,kU,zc];exact ow'
     have B3:Below w.heap.size w w1:=B2.grown gr z2 (fun k hk=>(o2.lt k hk).1);have hgw:w1.heap[g]? =wb.heap[g]? :=gr.block g hgl2 hne;have C1:Hid (∀j,j<fs.length->w1.cell? ⟨g,j,none⟩=some (L (fs.getD j za))):=fun j hj=>
      (zf (w:=wb) (a:=⟨g,j,none⟩) hgw).trans (HC2.out j hj)
     have hne1:some g≠v'.ownBlock:=by
      rcases hat with h|h
      .rw[h];exact hne
      rw[h];intro h2;cases h2;omega
     have hgl1:g<w1.heap.size:=zd hgl2 gr.size;clear o2 ow' gr hat B2 hgw HC2;go_wp2_with fail;go_roundw
     case rel=>exact ⟨k+1,acc++[v],om,gn,by rw[zc];simp;omega,HG.out,R,C1.out,hne1,hgl1,B3⟩
     case measure=>exact j1
 have HZ:Hid (cX t s.data.toList=some acc):=by
  show _=_;rw[HF.out,HR.out,XL t fs k hlt];simp
 have hki: ¬(k:Int)<(fs.length:Int):=om;clear hcell HCL;go_wp2_with fail;go_ret2;exact ⟨⟨_,acc,by rw[HZ.out];rfl,ow,om,fun gs h=>by rw[HZ.out]at h;cases h;rfl⟩,hbel⟩
