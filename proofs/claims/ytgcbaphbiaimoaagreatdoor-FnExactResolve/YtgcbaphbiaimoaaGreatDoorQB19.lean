/- RuneAtWalk, RunesWalk, AscBase, LabWalk, AscImpl. -/
import Derived.Lib.OthersKept
import Derived.Test.YtgcbaphbiaimoaaGreatDoorQB18
set_option maxHeartbeats 4000000
set_option maxRecDepth 100000
namespace Go.Proofs.YtgcbaphbiaimoaaGreatDoor
open Go.Value renaming int->I,string->L,tuple->H,bool->G
open Go.IntKind renaming i64->J
open Go.Ending renaming returned->Y
open Go.Obj renaming cells->Z
open _root_.Go.RowKit.Below renaming refl->zc
open _root_.Bool renaming eq_iff_iff->zo
open _root_.ByteArray renaming ext->zq,size->zp
open _root_.Int renaming toNat->zd
open _root_.List renaming length_append->zk,length_map->zh,size_toArray->zn
open _root_.Nat renaming le_refl->ze,reduceAdd->zj,zero_add->zf
open _root_.Go.World renaming ownsRow_lit->zg
open _root_.Go.Proofs.Tryz
open _root_.Go.Proofs.YtgcbaphbiaimoaaGreatDoor.Tryz
open Go.RowKit
def hG(s:ByteArray)(p:Nat)(r0:Int):Nat->Int
 |0=>r0
 |m+1=>hG s p r0 m*64+(bt s (p+(m+1)):Int)%64
theorem wK(s:ByteArray)(p:Nat)(r0:Int)(h0:0<=r0)(h1:r0<32): ∀m,m<=3->0<=hG s p r0 m/\hG s p r0 m<8388608
 |0,_=>by simp only[hG];omega
 |1,_=>by simp only[hG];omega
 |2,_=>by simp only[hG];omega
 |3,_=>by simp only[hG];omega
theorem VE(s:ByteArray)(p c:Nat)(w:World)(hp:p<s.size)(hs:s.size<=1099511627776)(hc:s[p].toNat=c)(hb1:194<=c)(hb2:c<=223):Calls prog 225 #[L s,I J (p:Int)] w fun e w'=>e=Y (H #[I J (bY s p).1,I J (bY s p).2])/\Below w.heap.size w w':=by
 have e0:bits .and .i64 (c:Int) 31=(c:Int)%32:=N3 _ om om;have hbt:bt s p=c:=by rw[uT s p hp,hc]
 have HBT:Hid (bt s p=c):=hbt;clear hbt
 by_cases hshort:p+2<=s.size
 .have hsh: ¬((s.size:Int)<(p:Int)+2):=om
  go_enter func225,ntmps225;go_wp2_with fail;refine j5 (aI _ 194 223 _ om om) ?_;go_wp2_with fail;clear e0
  go_loop[8,9] (fun r i=> ∃m:Nat,m<=1/\i=I J ((m:Int)+1)/\r=I J (hG s p ((c:Int)%32) m)/\ ∀j,j<m->128<=bt s (p+(j+1))/\bt s (p+(j+1))<=191) (fun _ i=>3-(intOf i).toNat)
  case atStart=>exact ⟨0,om,rfl,rfl,fun j h=>by omega⟩
  obtain ⟨m,hm,rfl,rfl,hall⟩:=hrel;have HA:Hid (∀j,j<m->128<=bt s (p+(j+1))/\bt s (p+(j+1))<=191):=hall;clear hall;have hab:=wK s p ((c:Int)%32) om om m om
  by_cases hlt:m<1
  .have hq:p+(m+1)<s.size:=om
   obtain ⟨d,hd⟩: ∃d:Nat,s[p+(m+1)].toNat=d:=⟨_,rfl⟩;have hd255:d<=255:=by have:=s[p+(m+1)].toNat_lt;omega
   have HD:Hid (bt s (p+(m+1))=d):=by show _=_;rw[uT s _ hq,hd]
   have HN:Hid (hG s p ((c:Int)%32) (m+1)=hG s p ((c:Int)%32) m*64+(d:Int)%64):=by show _=_;rw[hG,HD.out]
   generalize hG s p ((c:Int)%32) m=a at hab HN⊢;obtain ⟨ha0,ha1⟩:=hab;have e1:bits .and .i64 (d:Int) 63=(d:Int)%64:=zX _ om om;have e2:bits .or .i64 (a*64) ((d:Int)%64)=a*64+(d:Int)%64:=jD 6 _ _ om om om om om om
   by_cases hg:128<=d/\d<=191
   .obtain ⟨hg1,hg2⟩:=hg
    go_wp2_with fail;refine j5 (aI _ 128 191 _ om om) ?_;go_wp2_with fail;go_round
    case rel=>
     refine ⟨m+1,om,gn,by rw[HN.out],fun j hj=> ?_⟩
     by_cases e:j=m
     .subst e;rw[HD.out];exact ⟨hg1,hg2⟩
     exact HA.out j om
    case measure=>exact j1
   have HG:Hid (((d:Int)<128)∨(191:Int)<(d:Int)):=by show _∨_;omega
   have hR:=KV s p (by rw[HBT.out];omega) (by
    intro hh
    have:=HD.out
    have hg':=hg
    obtain rfl:m=0:=om
    all_goals (simp only[zf]at this;omega))
   have HR:Hid (bY s p=(0,0)):=hR;clear hg hR;go_wp2_with fail;refine j5 (aP _ 128 191 _ HG.out) ?_;go_wp2_with fail;go_ret2;exact ⟨by rw[HR.out];rfl,zc _ _⟩
  have hme:m=1:=om;subst hme;clear hm hlt;have hr:hG s p ((c:Int)%32) 1=(bt s p:Int)%32*64+(bt s (p+1):Int)%64:=by
   rw[HBT.out];simp only[hG,zf]
  have hR:=rune2 s p (by rw[HBT.out];omega) ⟨om,(HA.out 0 om).1,(HA.out 0 om).2⟩;rw[<-hr]at hR;have hlo:128<=hG s p ((c:Int)%32) 1:=by rw[hr,HBT.out];omega
  have hhi:hG s p ((c:Int)%32) 1<=2047:=by rw[hr,HBT.out];omega
  generalize hG s p ((c:Int)%32) 1=r at hR hlo hhi⊢;have HR:Hid (bY s p=(r,2)):=hR;clear hR hr hab;go_wp2_with fail;refine j5 (eL r _ ⟨om,om,om⟩) ?_;go_wp2_with fail;go_ret2;exact ⟨by rw[HR.out];rfl,(zc _ _).alloc (ze _) _⟩
 have hR:=KV s p (by rw[HBT.out];omega) om;have HR:Hid (bY s p=(0,0)):=hR;clear hR;go_enter func225,ntmps225;go_wp2_with fail;refine j5 (aI _ 194 223 _ om om) ?_;go_wp2_with fail;go_ret2;exact ⟨by rw[HR.out];rfl,zc _ _⟩
theorem VF(s:ByteArray)(p c:Nat)(w:World)(hp:p<s.size)(hs:s.size<=1099511627776)(hc:s[p].toNat=c)(hb1:224<=c)(hb2:c<=239):Calls prog 225 #[L s,I J (p:Int)] w fun e w'=>e=Y (H #[I J (bY s p).1,I J (bY s p).2])/\Below w.heap.size w w':=by
 have e0:bits .and .i64 (c:Int) 15=(c:Int)%16:=N4 _ om om;have hbt:bt s p=c:=by rw[uT s p hp,hc]
 have HBT:Hid (bt s p=c):=hbt;clear hbt
 by_cases hshort:p+3<=s.size
 .have hsh: ¬((s.size:Int)<(p:Int)+3):=om
  go_enter func225,ntmps225;go_wp2_with fail;refine j5 (aP _ 194 223 _ (.inr om)) ?_;go_wp2_with fail;refine j5 (aI _ 224 239 _ om om) ?_;go_wp2_with fail;clear e0
  go_loop[8,9] (fun r i=> ∃m:Nat,m<=2/\i=I J ((m:Int)+1)/\r=I J (hG s p ((c:Int)%16) m)/\ ∀j,j<m->128<=bt s (p+(j+1))/\bt s (p+(j+1))<=191) (fun _ i=>4-(intOf i).toNat)
  case atStart=>exact ⟨0,om,rfl,rfl,fun j h=>by omega⟩
  obtain ⟨m,hm,rfl,rfl,hall⟩:=hrel;have HA:Hid (∀j,j<m->128<=bt s (p+(j+1))/\bt s (p+(j+1))<=191):=hall;clear hall;have hab:=wK s p ((c:Int)%16) om om m om
  by_cases hlt:m<2
  .have hq:p+(m+1)<s.size:=om
   obtain ⟨d,hd⟩: ∃d:Nat,s[p+(m+1)].toNat=d:=⟨_,rfl⟩;have hd255:d<=255:=by have:=s[p+(m+1)].toNat_lt;omega
   have HD:Hid (bt s (p+(m+1))=d):=by show _=_;rw[uT s _ hq,hd]
   have HN:Hid (hG s p ((c:Int)%16) (m+1)=hG s p ((c:Int)%16) m*64+(d:Int)%64):=by show _=_;rw[hG,HD.out]
   generalize hG s p ((c:Int)%16) m=a at hab HN⊢;obtain ⟨ha0,ha1⟩:=hab;have e1:bits .and .i64 (d:Int) 63=(d:Int)%64:=zX _ om om;have e2:bits .or .i64 (a*64) ((d:Int)%64)=a*64+(d:Int)%64:=jD 6 _ _ om om om om om om
   by_cases hg:128<=d/\d<=191
   .obtain ⟨hg1,hg2⟩:=hg
    go_wp2_with fail;refine j5 (aI _ 128 191 _ om om) ?_;go_wp2_with fail;go_round
    case rel=>
     refine ⟨m+1,om,gn,by rw[HN.out],fun j hj=> ?_⟩
     by_cases e:j=m
     .subst e;rw[HD.out];exact ⟨hg1,hg2⟩
     exact HA.out j om
    case measure=>exact j1
   have HG:Hid (((d:Int)<128)∨(191:Int)<(d:Int)):=by show _∨_;omega
   have hR:=KW s p (by rw[HBT.out];omega) (by
    intro hh
    have:=HD.out
    have hg':=hg
    rcases (show m=0∨m=1 by omega)with rfl|rfl
    all_goals (simp only[zf,zj]at this;omega))
   have HR:Hid (bY s p=(0,0)):=hR;clear hg hR;go_wp2_with fail;refine j5 (aP _ 128 191 _ HG.out) ?_;go_wp2_with fail;go_ret2;exact ⟨by rw[HR.out];rfl,zc _ _⟩
  have hme:m=2:=om;subst hme;clear hm hlt;have hr:hG s p ((c:Int)%16) 2=(bt s p:Int)%16*4096+(bt s (p+1):Int)%64*64+(bt s (p+2):Int)%64:=by
   rw[HBT.out];simp only[hG,zf,zj];omega
  have hR:=rune3 s p (hG s p ((c:Int)%16) 2) (by rw[HBT.out];omega) ⟨om,(HA.out 0 om).1,(HA.out 0 om).2,om,(HA.out 1 om).1,(HA.out 1 om).2⟩ hr;have hhi:hG s p ((c:Int)%16) 2<=65535:=by rw[hr,HBT.out];omega
  generalize hG s p ((c:Int)%16) 2=r at hR hab hhi⊢;obtain ⟨ha0,ha1⟩:=hab;clear hr
  by_cases hl:r<2048
  .rw[if_pos (.inl hl)]at hR
   have HR:Hid (bY s p=(0,0)):=hR;clear hR;go_wp2_with fail;go_ret2;exact ⟨by rw[HR.out];rfl,(zc _ _).alloc (ze _) _⟩
  by_cases hg: ¬(r<55296∨57343<r)
  .rw[if_pos (.inr hg)]at hR
   have HR:Hid (bY s p=(0,0)):=hR;have HG:Hid (¬dU r):=by show ¬_;unfold dU;omega
   clear hR hg;go_wp2_with fail;refine j5 (mN r _ HG.out) ?_;go_wp2_with fail;go_ret2;exact ⟨by rw[HR.out];rfl,(zc _ _).alloc (ze _) _⟩
  rw[if_neg om]at hR;have HR:Hid (bY s p=(r,3)):=hR;have HG:Hid (dU r):=by show dU r;unfold dU;omega
  clear hR hg;go_wp2_with fail;refine j5 (eL r _ HG.out) ?_;go_wp2_with fail;go_ret2;exact ⟨by rw[HR.out];rfl,(zc _ _).alloc (ze _) _⟩
 have hR:=KW s p (by rw[HBT.out];omega) om;have HR:Hid (bY s p=(0,0)):=hR;clear hR;go_enter func225,ntmps225;go_wp2_with fail;refine j5 (aP _ 194 223 _ (.inr om)) ?_;go_wp2_with fail;refine j5 (aI _ 224 239 _ om om) ?_;go_wp2_with fail;go_ret2;exact ⟨by rw[HR.out];rfl,zc _ _⟩
theorem VG(s:ByteArray)(p c:Nat)(w:World)(hp:p<s.size)(hs:s.size<=1099511627776)(hc:s[p].toNat=c)(hb1:240<=c)(hb2:c<=244):Calls prog 225 #[L s,I J (p:Int)] w fun e w'=>e=Y (H #[I J (bY s p).1,I J (bY s p).2])/\Below w.heap.size w w':=by
 have e0:bits .and .i64 (c:Int) 7=(c:Int)%8:=Ac _ om om;have hbt:bt s p=c:=by rw[uT s p hp,hc]
 have HBT:Hid (bt s p=c):=hbt;clear hbt
 by_cases hshort:p+4<=s.size
 .have hsh: ¬((s.size:Int)<(p:Int)+4):=om
  go_enter func225,ntmps225;go_wp2_with fail;refine j5 (aP _ 194 223 _ (.inr om)) ?_;go_wp2_with fail;refine j5 (aP _ 224 239 _ (.inr om)) ?_;go_wp2_with fail;refine j5 (aI _ 240 244 _ om om) ?_;go_wp2_with fail;clear e0
  go_loop[8,9] (fun r i=> ∃m:Nat,m<=3/\i=I J ((m:Int)+1)/\r=I J (hG s p ((c:Int)%8) m)/\ ∀j,j<m->128<=bt s (p+(j+1))/\bt s (p+(j+1))<=191) (fun _ i=>5-(intOf i).toNat)
  case atStart=>exact ⟨0,om,rfl,rfl,fun j h=>by omega⟩
  obtain ⟨m,hm,rfl,rfl,hall⟩:=hrel;have HA:Hid (∀j,j<m->128<=bt s (p+(j+1))/\bt s (p+(j+1))<=191):=hall;clear hall;have hab:=wK s p ((c:Int)%8) om om m om
  by_cases hlt:m<3
  .have hq:p+(m+1)<s.size:=om
   obtain ⟨d,hd⟩: ∃d:Nat,s[p+(m+1)].toNat=d:=⟨_,rfl⟩;have hd255:d<=255:=by have:=s[p+(m+1)].toNat_lt;omega
   have HD:Hid (bt s (p+(m+1))=d):=by show _=_;rw[uT s _ hq,hd]
   have HN:Hid (hG s p ((c:Int)%8) (m+1)=hG s p ((c:Int)%8) m*64+(d:Int)%64):=by show _=_;rw[hG,HD.out]
   generalize hG s p ((c:Int)%8) m=a at hab HN⊢;obtain ⟨ha0,ha1⟩:=hab;have e1:bits .and .i64 (d:Int) 63=(d:Int)%64:=zX _ om om;have e2:bits .or .i64 (a*64) ((d:Int)%64)=a*64+(d:Int)%64:=jD 6 _ _ om om om om om om
   by_cases hg:128<=d/\d<=191
   .obtain ⟨hg1,hg2⟩:=hg
    go_wp2_with fail;refine j5 (aI _ 128 191 _ om om) ?_;go_wp2_with fail;go_round
    case rel=>
     refine ⟨m+1,om,gn,by rw[HN.out],fun j hj=> ?_⟩
     by_cases e:j=m
     .subst e;rw[HD.out];exact ⟨hg1,hg2⟩
     exact HA.out j om
    case measure=>exact j1
   have HG:Hid (((d:Int)<128)∨(191:Int)<(d:Int)):=by show _∨_;omega
   have hR:=KX s p (by rw[HBT.out];omega) (by
    intro hh
    have:=HD.out
    have hg':=hg
    rcases (show m=0∨m=1∨m=2 by omega)with rfl|rfl|rfl
    all_goals (simp only[zf,zj]at this;omega))
   have HR:Hid (bY s p=(0,0)):=hR;clear hg hR;go_wp2_with fail;refine j5 (aP _ 128 191 _ HG.out) ?_;go_wp2_with fail;go_ret2;exact ⟨by rw[HR.out];rfl,zc _ _⟩
  have hme:m=3:=om;subst hme;clear hm hlt;have hr:hG s p ((c:Int)%8) 3=(bt s p:Int)%8*262144+(bt s (p+1):Int)%64*4096+(bt s (p+2):Int)%64*64+(bt s (p+3):Int)%64:=by
   rw[HBT.out];simp only[hG,zf,zj];omega
  have hR:=rune4 s p (hG s p ((c:Int)%8) 3) (by rw[HBT.out];omega) ⟨om,(HA.out 0 om).1,(HA.out 0 om).2,om,(HA.out 1 om).1,(HA.out 1 om).2,om,(HA.out 2 om).1,(HA.out 2 om).2⟩ hr;have hhi:hG s p ((c:Int)%8) 3<=2097151:=by rw[hr,HBT.out];omega
  generalize hG s p ((c:Int)%8) 3=r at hR hab hhi⊢;obtain ⟨ha0,ha1⟩:=hab;clear hr
  by_cases hl:r<65536
  .rw[if_pos (.inl hl)]at hR
   have HR:Hid (bY s p=(0,0)):=hR;clear hR;go_wp2_with fail;go_ret2;exact ⟨by rw[HR.out];rfl,(zc _ _).alloc (ze _) _⟩
  by_cases hg: ¬r<=1114111
  .rw[if_pos (.inr hg)]at hR
   have HR:Hid (bY s p=(0,0)):=hR;have HG:Hid (¬dU r):=by show ¬_;unfold dU;omega
   clear hR hg;go_wp2_with fail;refine j5 (mN r _ HG.out) ?_;go_wp2_with fail;go_ret2;exact ⟨by rw[HR.out];rfl,(zc _ _).alloc (ze _) _⟩
  rw[if_neg om]at hR;have HR:Hid (bY s p=(r,4)):=hR;have HG:Hid (dU r):=by show dU r;unfold dU;omega
  clear hR hg;go_wp2_with fail;refine j5 (eL r _ HG.out) ?_;go_wp2_with fail;go_ret2;exact ⟨by rw[HR.out];rfl,(zc _ _).alloc (ze _) _⟩
 have hR:=KX s p (by rw[HBT.out];omega) om;have HR:Hid (bY s p=(0,0)):=hR;clear hR;go_enter func225,ntmps225;go_wp2_with fail;refine j5 (aP _ 194 223 _ (.inr om)) ?_;go_wp2_with fail;refine j5 (aP _ 224 239 _ (.inr om)) ?_;go_wp2_with fail;refine j5 (aI _ 240 244 _ om om) ?_;go_wp2_with fail;go_ret2;exact ⟨by rw[HR.out];rfl,zc _ _⟩
theorem VH(s:ByteArray)(p c:Nat)(w:World)(hp:p<s.size)(_hs:s.size<=1099511627776)(hc:s[p].toNat=c)(hb:c<128):Calls prog 225 #[L s,I J (p:Int)] w fun e w'=>e=Y (H #[I J (bY s p).1,I J (bY s p).2])/\Below w.heap.size w w':=by
 have hR:=rune1 s p (by rw[uT s p hp,hc];omega);rw[uT s p hp,hc]at hR;have HR:Hid (bY s p=((c:Int),1)):=hR;clear hR;go_enter func225,ntmps225;go_wp2_with fail;go_ret2;exact ⟨by rw[HR.out];rfl,zc _ _⟩
theorem VI(s:ByteArray)(p c:Nat)(w:World)(hp:p<s.size)(_hs:s.size<=1099511627776)(hc:s[p].toNat=c)(hb:128<=c)(hb2:c<194∨244<c):Calls prog 225 #[L s,I J (p:Int)] w fun e w'=>e=Y (H #[I J (bY s p).1,I J (bY s p).2])/\Below w.heap.size w w':=by
 have hR:=rune0 s p (by rw[uT s p hp,hc];omega) (by rw[uT s p hp,hc];omega);have HR:Hid (bY s p=(0,0)):=hR;have h255:c<=255:=by have:=s[p].toNat_lt;omega
 have HB:Hid (c<194∨244<c):=hb2;clear hR hb2;go_enter func225,ntmps225;go_wp2_with fail;refine j5 (aP _ 194 223 _ (by have:=HB.out;omega)) ?_;go_wp2_with fail;refine j5 (aP _ 224 239 _ (by have:=HB.out;omega)) ?_;go_wp2_with fail;refine j5 (aP _ 240 244 _ (by have:=HB.out;omega)) ?_;go_wp2_with fail;go_ret2;exact ⟨by rw[HR.out];rfl,zc _ _⟩
theorem IC(s:ByteArray)(p:Nat)(w:World)(hp:p<s.size)(hs:s.size<=1099511627776):Calls prog 225 #[L s,I J (p:Int)] w fun e w'=>e=Y (H #[I J (bY s p).1,I J (bY s p).2])/\Below w.heap.size w w':=by
 by_cases h1:s[p].toNat<128
 .exact VH s p _ w hp hs rfl h1
 by_cases h2:194<=s[p].toNat/\s[p].toNat<=223
 .exact VE s p _ w hp hs rfl h2.1 h2.2
 by_cases h3:224<=s[p].toNat/\s[p].toNat<=239
 .exact VF s p _ w hp hs rfl h3.1 h3.2
 by_cases h4:240<=s[p].toNat/\s[p].toNat<=244
 .exact VG s p _ w hp hs rfl h4.1 h4.2
 exact VI s p _ w hp hs rfl om om
theorem J9(x:Int): ∀u∈ #[Value.int .i64 x].toList,u.oneCell'=true:=by
 intro u hu;simp at hu;subst hu;rfl
def qQ(s:ByteArray)(w:World)(e:Ending)(w':World):Prop:=
 ((cS s).1=s.size/\ ∃v,e=Y (H #[v,G true])/\w'.ownsRow w.heap.size 3 1 v (cS s).2.length (aO (cS s).2)/\Below w.heap.size w w')∨
 ((cS s).1≠s.size/\ ∃v,e=Y (H #[v,G false])/\w'.ownsRow w.heap.size 3 1 v 0 (aO [])/\Below w.heap.size w w')
theorem ID(s:ByteArray)(k:Nat)(h1:(stR s k).1<s.size)(h2:rJ s (stR s k).1){w1:World}{B:Nat}{v:Value}{e:TypeId}{x:Int}(hx:x=((Utf8.decode s (stR s k).1).1:Int))
  (hown:w1.ownsRow B e 1 v ((stR s k).2.length+1) (aO (stR s k).2++[I J x])):
  w1.ownsRow B e 1 v (stR s (k+1)).2.length (aO (stR s (k+1)).2):=by
 subst hx;rw[xM s k h1 h2];simp only;rw[lU,zk];exact hown
theorem yV{w:World}{B:Nat}{e:TypeId}{size:Nat}{v:Value}{n:Nat}{xs:List Value}{K:Nat}{s:ByteArray}{p:Nat}(h:w.ownsRow B e size v n xs)(hk:w.heap[K]? =some (.stringIter s p)):some K≠v.ownBlock:=by
 intro hx
 rcases h.2 with ⟨rfl,_⟩|⟨g,cap,cur,rfl,_,hg,_⟩
 .simp[Value.ownBlock]at hx
 simp[Value.ownBlock]at hx;subst hx;rw[hk]at hg;simp at hg
theorem YS{w:World}{B:Nat}{e:TypeId}{size:Nat}{v:Value}{n:Nat}{xs:List Value}{K:Nat}{s:ByteArray}{p:Nat}(h:w.ownsRow B e size v n xs)(hk:w.heap[K]? =some (.stringIter s p))(p':Nat):(w.iterAt K s p').ownsRow B e size v n xs:=by
 have hne:=yV h hk;refine ⟨h.1,?_⟩
 rcases h.2 with hn|⟨g,cap,cur,rfl,hb,hg,rest⟩
 .exact .inl hn
 refine .inr ⟨g,cap,cur,rfl,hb,?_,rest⟩;have hgk:g≠K:=by
  intro e;subst e;simp[Value.ownBlock]at hne
 rw[Lib.iterAt_other w K g s p' hgk];exact hg
theorem T8(s:ByteArray)(w:World)(hs:s.size<=1048576):Calls prog 188 #[L s] w fun e w'=>qQ s w e w':=by
 go_enter func188,ntmps188;go_wp2
 go_loopw[4,5] (fun v i wr=> ∃k:Nat,i=I J ((stR s k).1:Int)/\wr.ownsRow w.heap.size 3 1 v (stR s k).2.length (aO (stR s k).2)/\Below w.heap.size w wr)
  (fun _ i _=>s.size-(intOf i).toNat)
 case atStart=>exact ⟨0,rfl,zg w #[] 0 (ze _) de rfl,(zc _ _).alloc (ze _) _⟩
 obtain ⟨k,rfl,hown,hbel⟩:=hrel;have hsz:=hbel.size;have hl:=SP s k;have hle:=OG s k;have HS1:Hid (∀(h1:(stR s k).1<s.size) (h2:rJ s (stR s k).1),(stR s (k+1)).1=(stR s k).1+(Utf8.decode s (stR s k).1).2):=fun h1 h2=>by rw[xM s k h1 h2]
 have HST:Hid (¬((stR s k).1<s.size/\rJ s (stR s k).1)->stR s k=cS s):=fun h=>OF s k h
 have HSP:Hid (∀(h1:(stR s k).1<s.size) (h2:rJ s (stR s k).1) (w1:World) (v:Value) (x:Int) (hx:x=((Utf8.decode s (stR s k).1).1:Int)),
  w1.ownsRow w.heap.size 3 1 v ((stR s k).2.length+1) (aO (stR s k).2++[I J x])->w1.ownsRow w.heap.size 3 1 v (stR s (k+1)).2.length (aO (stR s (k+1)).2)):=
  fun h1 h2 w1 v x hx h=>ID s k h1 h2 hx h
 have HP:Hid ((stR s k).1=(stR s k).1):=rfl
 by_cases hlt:(stR s k).1<s.size
 .have hw:=Lib.decode_width_pos s (stR s k).1 hlt
  by_cases hok:rJ s (stR s k).1
  .have hr:bY s (stR s k).1=(((Utf8.decode s (stR s k).1).1:Int),((Utf8.decode s (stR s k).1).2:Int)):=by unfold bY;rw[if_pos hok]
   have hw4:(stR s k).1+(Utf8.decode s (stR s k).1).2<=s.size:=by rw[<-HS1.out hlt hok];exact OG s (k+1)
   have HOK:Hid (rJ s (stR s k).1):=hok;have cr:=IC s (stR s k).1;rw[hr]at cr;have CR:Hid (∀(W:World) (_:(stR s k).1<s.size) (_:s.size<=1099511627776),CB 225 #[L s,I J ((stR s k).1:Int)] W (H #[I J ((Utf8.decode s (stR s k).1).1:Int),I J ((Utf8.decode s (stR s k).1).2:Int)])):=cr;clear hok hr cr HST;have H1:Hid ((stR s (k+1)).1=(stR s k).1+(Utf8.decode s (stR s k).1).2):=HS1.out hlt HOK.out;have H2:Hid (∀(w1:World) (v:Value),w1.ownsRow w.heap.size 3 1 v ((stR s k).2.length+1) (aO (stR s k).2++[I J ((Utf8.decode s (stR s k).1).1:Int)])->w1.ownsRow w.heap.size 3 1 v (stR s (k+1)).2.length (aO (stR s (k+1)).2)):=
    fun w1 v h=>HSP.out hlt HOK.out w1 v _ rfl h
   clear HS1 HSP HP;generalize (Utf8.decode s (stR s k).1).1=R at*;generalize (Utf8.decode s (stR s k).1).2=W at*;generalize hp:(stR s k).1=p at*;generalize (stR s k).2=l at*;have HPP:Hid ((stR s k).1=p):=hp;clear hp;have hne:((W:Int)==0)=false:=by simp;omega
   go_wp2_with fail;refine (CR.out _ hlt om).mono ?_;rintro e wc ⟨rfl,hbc⟩;have hown2:=aN hown hbc;have hsc:=hbc.size;go_wp2_with (at_builtin;refine aC _ rfl _ _ 95 rfl w.heap.size 3 (I J 0) 8 underlying95 infoInt rfl _ _ _ rfl hown2 #[I J (R:Int)] 1 rfl rfl (J9 _) om (by unfold maxLen;omega) om ?_);intro v' w1 hown' hb1;have R1:=H2.out w1 v' hown';have B1:Below w.heap.size w w1:=(hbel.trans (hbc.mono hsz)).trans hb1;clear hown' hb1 hown hbel hown2 hbc;go_wp2;go_roundw
   case rel=>exact ⟨k+1,by rw[H1.out];go_num,R1,B1⟩
   case measure=>exact j1
  have hr:bY s (stR s k).1=(0,0):=by unfold bY;rw[if_neg hok]
  have HF:Hid (stR s k=cS s):=HST.out (fun h=>hok h.2);have cr:=IC s (stR s k).1;rw[hr]at cr;have CR:Hid (∀(W:World) (_:(stR s k).1<s.size) (_:s.size<=1099511627776),CB 225 #[L s,I J ((stR s k).1:Int)] W (H #[I J 0,I J 0])):=cr;clear hok hr cr HST HS1 HSP HP hw;have HN:Hid ((cS s).1≠s.size):=by show _≠_;rw[<-HF.out];omega
  generalize (stR s k).1=p at*;clear HF;go_wp2_with fail;refine (CR.out _ hlt om).mono ?_;rintro e wc ⟨rfl,hbc⟩;have hsc:=hbc.size;have B1:Below w.heap.size w (wc.alloc (Z #[] 3)):=(hbel.trans (hbc.mono hsz)).alloc om _;have O1:(wc.alloc (Z #[] 3)).ownsRow w.heap.size 3 1 (.slice (some ⟨wc.heap.size,0,none⟩) 0 0) 0 (aO []):=zg wc #[] 0 om de rfl;go_wp2;go_ret2;exact .inr ⟨HN.out,_,rfl,O1,B1⟩
 have HF:Hid (stR s k=cS s):=HST.out (fun h=>hlt h.1);have HN:Hid ((cS s).1=s.size):=by show _=_;rw[<-HF.out];omega
 have O1:wr.ownsRow w.heap.size 3 1 u4 (cS s).2.length (aO (cS s).2):=by rw[<-HF.out];exact hown
 clear HF HST HS1 HSP HP hown;generalize (stR s k).1=p at*;go_wp2;go_ret2;exact .inl ⟨HN.out,_,rfl,O1,hbel⟩
theorem MR(s:ByteArray)(w:World)(hs:s.size<=1048576)(hT:Lib.Utf8Tabs 12 13 w):Calls prog 291 #[L s] w fun e w'=>qQ s w e w':=by
 obtain ⟨i0,hi,hz0,hz1,hz2⟩:=info_parts infoInt;have cv:=Any.utf8_ValidString lays196 s w om hT;have CV:Hid (CB 296 #[L s] w (G (Lib.validD s.data.toList))):=cv;clear cv hT
 by_cases hv:Lib.validD s.data.toList=true
 .have HV:Hid (Lib.validD s.data.toList=true):=hv
  have HN:Hid ((cS s).1=s.size):=(AB s).1 hv;have CV2:Hid (CB 296 #[L s] w (G true)):=by have h:=CV.out;rw[hv]at h;exact h
  have hrc:=Lib.runeCount_le s;clear hv CV;go_enter func291,ntmps291;go_wp2_with fail;refine CV2.out.mono ?_;rintro e wa ⟨rfl,ba⟩;go_wp2_with fail;refine (utf8_RuneCountInString s _ om).mono ?_;rintro e wb ⟨rfl,pos,hwb⟩;have bb:Below wa.heap.size wa wb:=by rw[hwb];exact (zc _ _).alloc (ze _) _
  have za:=ba.size;have Bb:Below w.heap.size w wb:=ba.trans (bb.mono za);clear hwb bb ba pos;have zb:=Bb.size;generalize Lib.runeCount s=rc at*;go_wp2_with (at_make;refine wpList_make_own _ rfl _ _ 95 rfl w.heap.size 3 i0 (I J 0) 1 underlying95 hi hz0 hz1 _ _ _ rc rfl rfl om (by rw[hz2];omega) (by unfold maxLen;omega) zb ?_);intro wm hmo hgm;have Bm:Below w.heap.size w wm:=Bb.grown hgm zb (fun k hk=>by cases hk);have zm:=Bm.size;have hit:(wm.iter s 0).heap[wm.heap.size]? =some (.stringIter s 0):=World.iter_heap wm s 0;have Bi:Below w.heap.size w (wm.iter s 0):=Bm.alloc zm _;have oi:(wm.iter s 0).ownsRow w.heap.size 3 1 (.slice (some ⟨wb.heap.size,0,none⟩) 0 rc) 0 []:=hmo.alloc _;clear hgm hmo Bb Bm;have HK:Hid (w.heap.size<=wm.heap.size):=zm;go_wp2_with fail;generalize wm.heap.size=K at hit HK⊢
  go_loopw[4] (fun v wr=> ∃k:Nat,wr.heap[K]? =some (.stringIter s (stR s k).1)/\wr.ownsRow w.heap.size 3 1 v (stR s k).2.length (aO (stR s k).2)/\Below w.heap.size w wr)
   (fun _ wr=>s.size-wr.iterPos K)
  case atStart=>exact ⟨0,hit,oi,Bi⟩
  obtain ⟨k,hk,hown,hbel⟩:=hrel;clear hit oi Bi;have hsz:=hbel.size;have hl:=SP s k;have hle:=OG s k
  by_cases hlt:(stR s k).1<s.size
  .have hok:=Ap s HV.out k hlt
   have H1:Hid ((stR s (k+1)).1=(stR s k).1+(Utf8.decode s (stR s k).1).2):=by show _=_;rw[xM s k hlt hok]
   have H2:Hid (∀(w1:World) (v:Value),w1.ownsRow w.heap.size 3 1 v ((stR s k).2.length+1) (aO (stR s k).2++[I J ((Utf8.decode s (stR s k).1).1:Int)])->w1.ownsRow w.heap.size 3 1 v (stR s (k+1)).2.length (aO (stR s (k+1)).2)):=
    fun w1 v h=>ID s k hlt hok rfl h
   have hw:=Lib.decode_width_pos s (stR s k).1 hlt;have hr31:=decode_le s (stR s k).1;have hnx:=fun ty=>Lib.run_next_any_at (P:=prog) wr K s (stR s k).1 ty hk hlt
   have hk2:=Lib.iterAt_heap wr K s (stR s k).1 ((stR s k).1+(Utf8.decode s (stR s k).1).2) hk;have hown2:=YS hown hk ((stR s k).1+(Utf8.decode s (stR s k).1).2);have hneK:some K≠u4.ownBlock:=yV hown hk;have hbel2:=Lib.below_iterAt hbel HK.out s ((stR s k).1+(Utf8.decode s (stR s k).1).2);have hKlt:K<wr.heap.size:=(Array.getElem?_eq_some_iff.1 hk).1;have HI:Hid (wr.iterPos K=(stR s k).1):=by show _=_;unfold World.iterPos;rw[hk]
   generalize (Utf8.decode s (stR s k).1).1=R at*;generalize (Utf8.decode s (stR s k).1).2=W at*;have HNK:Hid (some K≠u4.ownBlock):=hneK;clear hok hneK hown hbel;generalize hp:(stR s k).1=p at*;generalize (stR s k).2=l at*;have HPP:Hid ((stR s k).1=p):=hp;clear hp;have zi:(wr.iterAt K s (p+W)).heap.size=wr.heap.size:=Lib.iterAt_size wr K s (p+W);have HZI:Hid ((wr.iterAt K s (p+W)).heap.size=wr.heap.size):=zi;have hz3:w.heap.size<=(wr.iterAt K s (p+W)).heap.size:=om;have hK3:K<(wr.iterAt K s (p+W)).heap.size:=om;clear zi hk;generalize wr.iterAt K s (p+W)=wi at*;go_wp2_with (at_builtin;refine jO _ rfl _ _ 95 rfl w.heap.size 3 (I J 0) 8 underlying95 infoInt rfl _ _ _ rfl hown2 #[I J (R:Int)] 1 rfl rfl (J9 _) om (by unfold maxLen;omega) hz3 ?_);intro v' w1 hown' hb1 hkeep;have R1:=H2.out w1 v' hown';have B1:Below w.heap.size w w1:=hbel2.trans hb1;have K1:w1.heap[K]? =some (.stringIter s (p+W)):=(hkeep K hK3 HNK.out).trans hk2;have HI1:Hid (w1.iterPos K=p+W):=by show _=_;unfold World.iterPos;rw[K1]
   clear hown' hb1 hown2 hbel2 hkeep hk2;go_wp2;go_roundw
   case rel=>exact ⟨k+1,by rw[H1.out];exact K1,R1,B1⟩
   case measure=>
    have a:=HI.out;have b:=HI1.out;simp only[a,b];omega
  have HF:Hid (stR s k=cS s):=OF s k (fun h=>hlt h.1);have hnx:=fun ty=>Lib.run_next_end_at (P:=prog) wr K s (stR s k).1 ty hk hlt
  have O1:wr.ownsRow w.heap.size 3 1 u4 (cS s).2.length (aO (cS s).2):=by rw[<-HF.out];exact hown
  clear HF hown;go_wp2;go_ret2;exact .inl ⟨HN.out,_,rfl,O1,hbel⟩
 have HN:Hid ((cS s).1≠s.size):=fun h=>hv ((AB s).2 h)
 have CV2:Hid (CB 296 #[L s] w (G false)):=by
  have h:=CV.out;rw[Bool.not_eq_true]at hv;rw[hv]at h;exact h
 clear hv CV;go_enter func291,ntmps291;go_wp2_with fail;refine CV2.out.mono ?_;rintro e wa ⟨rfl,ba⟩;have za:=ba.size;have B1:Below w.heap.size w (wa.alloc (Z #[] 3)):=ba.alloc za _;have O1:(wa.alloc (Z #[] 3)).ownsRow w.heap.size 3 1 (.slice (some ⟨wa.heap.size,0,none⟩) 0 0) 0 (aO []):=zg wa #[] 0 za de rfl;go_wp2;go_ret2;exact .inr ⟨HN.out,_,rfl,O1,B1⟩
theorem VJ(s:ByteArray)(h:600<(s.size:Int)):dB (sN s)=none:=by
 cases hd:dB (sN s)with
 |none=>rfl
 |some l=>
  obtain ⟨hok,he⟩:=(rM _ _).1 hd
  have:=xU hok
  rw[he,cA]at this;omega
theorem YT(s:ByteArray)(w:World)(h:600<(s.size:Int)):Calls prog 230 #[L s] w fun e w'=>lD w w' none e/\Below w.heap.size w w':=by
 go_enter func230,ntmps230;go_wp2;go_ret2;exact ⟨bV rfl (zg w #[] 0 (ze _) de rfl) rfl,(zc _ _).alloc (ze _) _⟩
theorem YU(s:ByteArray)(w:World):Calls prog 230 #[L s] w fun e w'=>lD w w' (dB (sN s)) e/\Below w.heap.size w w':=by
 by_cases h:(s.size:Int)<=600
 .exact FQ s w h
 rw[VJ s om];exact YT s w om
theorem YV(s:ByteArray)(w:World):Calls prog 295 #[L s] w fun e w'=>lD w w' (dB (sN s)) e/\Below w.heap.size w w':=by
 by_cases h:(s.size:Int)<=600
 .exact IB s w h
 rw[VJ s om];exact wJ s w om
theorem wL{zl:List Int}(h:xL zl):zl=(zl.map zd).map (fun (c:Nat)=>(c:Int)):=by
 rw[List.map_map];refine (List.map_id zl).symm.trans (List.map_congr_left fun z hz=> ?_)
 have:=(h z hz).1
 show z=((z.toNat:Nat):Int);omega
theorem qR{zl:List Int}(h:xL zl)(h2:zl.length<=60):eU (zl.map zd)=true:=by
 rw[DW,<-wL h];exact ⟨h2,h⟩
theorem Dz{zl:List Int}(h2: ¬zl.length<=60):eU (zl.map zd)=false:=by
 unfold eU;rw[zh,decide_eq_false h2];rfl
def oK(zl:List Int):Value:=if zl.length<=60 then H #[L ⟨(b8 (bJ (zl.map zd))).toArray⟩,G true]else H #[L ⟨#[]⟩,G false]
theorem yW(zl:List Int)(v:Value)(B:Nat)(w:World)(hk:xL zl)(hl:zl.length<=1048576)(h:w.ownsRow B 3 1 v zl.length (aO zl)):Calls prog 189 #[v] w fun e w'=>e=Y (oK zl)/\Below w.heap.size w w':=by
 by_cases h2:zl.length<=60
 .have e:oK zl=H #[L ⟨(b8 (bJ (zl.map zd))).toArray⟩,G true]:=if_pos h2
  rw[e];refine YQ (zl.map zd) v B w (qR hk h2) ?_;unfold icN;rw[<-wL hk,zh];exact h
 have e:oK zl=H #[L ⟨#[]⟩,G false]:=if_neg h2;rw[e]
 rcases aY h with ⟨h0,_⟩|⟨_,g,cap,rfl⟩
 .omega
 exact kI zl zl.length g cap B w (fun hh=>h2 hh.1) rfl hl h
theorem yX(zl:List Int)(v:Value)(B:Nat)(w:World)(hk:xL zl)(hl:zl.length<=1048576)(h:w.ownsRow B 3 1 v zl.length (aO zl)):Calls prog 292 #[v] w fun e w'=>e=Y (oK zl)/\Below w.heap.size w w':=by
 have hr:w.ownsRow B 3 1 v (zl.map zd).length (icN (zl.map zd)):=by
  unfold icN;rw[<-wL hk,zh];exact h
 have hc:=IA (zl.map zd) v B w (by rw[zh];exact hl) hr
 by_cases h2:zl.length<=60
 .have e:oK zl=H #[L ⟨(b8 (bJ (zl.map zd))).toArray⟩,G true]:=if_pos h2
  rw[e];rw[qR hk h2,if_pos rfl]at hc;exact hc
 have e:oK zl=H #[L ⟨#[]⟩,G false]:=if_neg h2;rw[e];rw[Dz h2,if_neg de]at hc;exact hc
theorem uG(s:ByteArray)(h:(cS s).1=s.size):xL (cS s).2:=(Ar s h).1
theorem QF(s:ByteArray):(cS s).2.length<=s.size:=Hu s s.size
theorem Jf{l:List UInt8}(h:pO l=true):Lib.trimPrefix l xn=l.drop 4:=by
 have h':Lib.hasPrefix l xn=true:=h;unfold Lib.trimPrefix;rw[if_pos h'];rfl
theorem Jg{l:List UInt8}(h:pO l=false):Lib.trimPrefix l xn=l:=by
 have h':Lib.hasPrefix l xn=false:=h;unfold Lib.trimPrefix;rw[if_neg (by rw[h'];decide)]
def iJ(l:List UInt8):Option (List Nat):=if pO l=true then dB (KB (l.drop 4))else none
theorem IE(s:ByteArray)(w:World):Calls prog 290 #[L s] w fun e w'=>e=Y (G (!(pO s.data.toList)||(iJ s.data.toList).isSome))/\Below w.heap.size w w':=by
 have CP:=strings_CutPrefix s ⟨#[120,110,45,45]⟩ w;have CP':Hid (Calls prog 294 #[L s,L ⟨#[120,110,45,45]⟩] w fun e w'=>e=Y (H #[L ⟨(Lib.trimPrefix s.data.toList xn).toArray⟩,G (pO s.data.toList)])/\w'=w):=CP;clear CP
 cases hx:pO s.data.toList with
 |false=>
  rw[hx,Jg hx]at CP';clear hx;go_enter func290,ntmps290;go_wp2_with fail;refine CP'.out.mono ?_;rintro e w' ⟨rfl,rfl⟩;go_wp2_with fail;go_ret;exact ⟨rfl,zc _ _⟩
 |true=>
  rw[hx,Jf hx]at CP';have CD:Hid (∀W,Calls prog 295 #[L ⟨(s.data.toList.drop 4).toArray⟩] W fun e w'=>lD W w' (iJ s.data.toList) e/\Below W.heap.size W w'):=fun W=>by
   have h:=YV ⟨(s.data.toList.drop 4).toArray⟩ W;have e:dB (sN ⟨(s.data.toList.drop 4).toArray⟩)=iJ s.data.toList:=by
    unfold iJ;rw[if_pos hx];rfl
   rw[e]at h;exact h
  clear hx;go_enter func290,ntmps290;go_wp2_with fail;refine CP'.out.mono ?_;rintro e w' ⟨rfl,rfl⟩;go_wp2_with fail;refine (CD.out _).mono ?_;rintro e wa ⟨hd,ba⟩
  cases hr:iJ s.data.toList with
  |some l=>
   rw[hr]at hd;obtain ⟨v,rfl,_⟩:=hd;have HR:Hid (iJ s.data.toList=some l):=hr;clear hr CD CP';go_wp2_with fail;go_ret;exact ⟨aF (by rw[HR.out];rfl),ba⟩
  |none=>
   rw[hr]at hd;obtain ⟨v,rfl,_⟩:=hd;have HR:Hid (iJ s.data.toList=none):=hr;clear hr CD CP';go_wp2_with fail;go_ret;exact ⟨aF (by rw[HR.out];rfl),ba⟩
theorem yY(s:ByteArray)(w:World)(hs:s.size<=1048576)(hT:Lib.Utf8Tabs 12 13 w)(h1:(cS s).1=s.size)(h2:(cS s).2.length<=60):Calls prog 288 #[L s] w fun e w'=>e=Y (H #[L ⟨(xn++b8 (bJ ((cS s).2.map zd))).toArray⟩,G true])/\Below w.heap.size w w':=by
 have CR:Hid (Calls prog 291 #[L s] w fun e w'=>qQ s w e w'):=MR s w hs hT;have HA:Hid (xL (cS s).2):=uG s h1;have HL:Hid ((cS s).2.length<=1048576):=by have:=QF s;show _<=_;omega
 have HE:Hid (oK (cS s).2=H #[L ⟨(b8 (bJ ((cS s).2.map zd))).toArray⟩,G true]):=if_pos h2;have HX:Hid ((⟨#[120,110,45,45]⟩:ByteArray)++⟨(b8 (bJ ((cS s).2.map zd))).toArray⟩=⟨(xn++b8 (bJ ((cS s).2.map zd))).toArray⟩):=by
  show _=_;apply zq;rw[ByteArray.data_append];apply Array.toList_inj.1;simp[xn]
 have hz:(⟨(b8 (bJ ((cS s).2.map zd))).toArray⟩:ByteArray).size<=600:=by
  show (b8 (bJ ((cS s).2.map zd))).toArray.size<=600;rw[zn,tZ];exact xU (qR HA.out h2)
 obtain ⟨T,hTT⟩: ∃T:ByteArray,⟨(b8 (bJ ((cS s).2.map zd))).toArray⟩=T:=⟨_,rfl⟩;rw[hTT]at HE HX hz;clear hT h2 hTT;go_enter func288,ntmps288;go_wp2_with fail;refine CR.out.mono ?_;rintro e wa (⟨_,va,rfl,oa,ba⟩|⟨hn,_⟩)
 .go_wp2_with fail
  refine j6 (yX _ _ _ _ HA.out HL.out oa) fun wb bb=>?_
  rw[HE.out];have B:=ba.trans (bb.mono ba.size);clear oa ba bb CR;go_wp2_with fail;go_ret2;refine ⟨?_,B⟩;rw[<-HX.out];rfl
 exact absurd h1 hn
theorem AV(s:ByteArray)(w:World)(hs:s.size<=1048576)(hT:Lib.Utf8Tabs 12 13 w)(h: ¬((cS s).1=s.size/\(cS s).2.length<=60)):Calls prog 288 #[L s] w fun e w'=>(∃t:ByteArray,e=Y (H #[L t,G false]))/\Below w.heap.size w w':=by
 have CR:Hid (Calls prog 291 #[L s] w fun e w'=>qQ s w e w'):=MR s w hs hT;have HA:Hid ((cS s).1=s.size->xL (cS s).2):=fun h1=>uG s h1
 have HL:Hid ((cS s).2.length<=1048576):=by have:=QF s;show _<=_;omega
 have HE:Hid ((cS s).1=s.size->oK (cS s).2=H #[L ⟨#[]⟩,G false]):=fun h1=>if_neg (fun h2=>h ⟨h1,h2⟩)
 clear hT h;go_enter func288,ntmps288;go_wp2_with fail;refine CR.out.mono ?_;rintro e wa (⟨h1,va,rfl,oa,ba⟩|⟨_,va,rfl,_,ba⟩)
 .go_wp2_with fail
  refine j6 (yX _ _ _ _ (HA.out h1) HL.out oa) fun wb bb=>?_
  rw[HE.out h1];have B:=ba.trans (bb.mono ba.size);clear oa ba bb CR;go_wp2_with fail;go_ret2;exact ⟨⟨_,rfl⟩,B⟩
 clear CR;go_wp2_with fail;go_ret2;exact ⟨⟨_,rfl⟩,ba⟩
theorem pG(s:ByteArray)(w:World)(hs:s.size<=maxLen):Calls prog 190 #[L s] w fun e w'=>e=Y (G (eS s.data.toList))/\w=w':=by
 unfold maxLen at hs;have HV:Hid (∀b:Bool,eS s.data.toList=b->(Y (G b):Ending)=Y (G (eS s.data.toList))):=fun b h=>by rw[h]
 by_cases hr:1<=s.size/\s.size<=63
 .have hr1:1<=(s.size:Int):=om
  have hr2:(s.size:Int)<=63:=om
  by_cases h0:(s[0]'om).toNat=45
  .have HF:Hid (eS s.data.toList=false):=SZ s om h0
   go_enter func190,ntmps190;go_wp2_with fail;refine j5 (iT _ _ _ _ hr1 hr2) ?_;go_wp2_with fail;go_ret;exact ⟨HV.out _ HF.out,rfl⟩
  by_cases h1:(s[s.size-1]'om).toNat=45
  .have HF:Hid (eS s.data.toList=false):=TB s om h1
   go_enter func190,ntmps190;go_wp2_with fail;refine j5 (iT _ _ _ _ hr1 hr2) ?_;go_wp2_with fail;go_ret;exact ⟨HV.out _ HF.out,rfl⟩
  have q0:(((s[0]'om).toNat:Int)==45)=false:=beq_eq_false_iff_ne.2 om;have q1:(((s[s.size-1]'om).toNat:Int)==45)=false:=beq_eq_false_iff_ne.2 om;have HY:Hid ((∀c∈s.data.toList.take s.size,iS c=true)->eS s.data.toList=true):=F1 s hr h0 h1;clear h0 h1;go_enter func190,ntmps190;go_wp2_with fail;refine j5 (iT _ _ _ _ hr1 hr2) ?_;go_wp2_with fail
  go_loop[4] (fun i=> ∃k:Nat,k<=s.size/\i=I J k/\ ∀c∈s.data.toList.take k,iS c=true) (fun i=>s.size-(intOf i).toNat)
  case atStart=>exact ⟨0,Nat.zero_le _,rfl,fun c h=>by simp at h⟩
  obtain ⟨k,hk,rfl,hall⟩:=hrel;have HA:Hid (∀c∈s.data.toList.take k,iS c=true):=hall;clear hall
  by_cases hlt:k<s.size
  .obtain ⟨d,hd⟩: ∃d:Nat,s[k].toNat=d:=⟨_,rfl⟩
   have hd1:(d:Int)<=255:=by have:=s[k].toNat_lt;omega
   have HS:Hid ((97<=d/\d<=122)∨(48<=d/\d<=57)∨d=45-> ∀c∈s.data.toList.take (k+1),iS c=true):=fun hc=>TD s k hlt d hd hc HA.out
   have HN:Hid (¬((97<=d/\d<=122)∨(48<=d/\d<=57)∨d=45)->eS s.data.toList=false):=fun hc=>TC s k hlt (by rw[hd];exact hc)
   by_cases ha:97<=d/\d<=122
   .go_wp2_with fail
    refine j5 (iT _ _ _ _ om om) ?_;go_wp2_with fail;go_round
    case rel=>exact ⟨k+1,om,gn,HS.out om⟩
    case measure=>exact j1
   by_cases hn:48<=d/\d<=57
   .go_wp2_with fail
    refine j5 (iG _ _ _ _ om) ?_;go_wp2_with fail;refine j5 (iT _ _ _ _ om om) ?_;go_wp2_with fail;go_round
    case rel=>exact ⟨k+1,om,gn,HS.out om⟩
    case measure=>exact j1
   by_cases hm:d=45
   .subst hm
    clear hn ha;go_wp2_with fail;refine j5 (iG _ _ _ _ om) ?_;go_wp2_with fail;refine j5 (iG _ _ _ _ om) ?_;go_wp2_with fail;go_round
    case rel=>exact ⟨k+1,om,gn,HS.out (.inr (.inr trivial))⟩
    case measure=>exact j1
   have hm': ¬(d:Int)=45:=om;go_wp2_with fail;refine j5 (iG _ _ _ _ om) ?_;go_wp2_with fail;refine j5 (iG _ _ _ _ om) ?_;go_wp2_with fail;go_ret;exact ⟨HV.out _ (HN.out om),rfl⟩
  have hks:k=s.size:=om;subst hks;go_wp2_with fail;go_ret;exact ⟨HV.out _ (HY.out HA.out),rfl⟩
 have HF:Hid (eS s.data.toList=false):=SY s hr;have hr1:(s.size:Int)<1∨63<(s.size:Int):=om;go_enter func190,ntmps190;go_wp2_with fail;refine j5 (iG _ _ _ _ hr1) ?_;go_wp2_with fail;go_ret;exact ⟨HV.out _ HF.out,rfl⟩
theorem IF(d:Nat)(w:World)(hd:(d:Int)<=255):Calls prog 218 #[.int .u8 d] w fun e w'=>e=Y (G (decide (48<=(d:Int))&&decide ((d:Int)<=57)))/\w=w':=by
 by_cases h1:48<=(d:Int)
 .go_enter func218,ntmps218
  go_wp2;go_ret;exact ⟨aF (by simp;omega),rfl⟩
 go_enter func218,ntmps218;go_wp2;go_ret;exact ⟨aF (by simp;omega),rfl⟩
def YW(d:Nat):Bool:=decide ((97<=d/\d<=122)∨(48<=d/\d<=57)∨d=45)
theorem DM(d:Nat)(w:World)(hd:(d:Int)<=255):Calls prog 293 #[.int .u8 d] w fun e w'=>e=Y (G (YW d))/\w=w':=by
 have HV:Hid (∀b:Bool,YW d=b->(Y (G b):Ending)=Y (G (YW d))):=fun b h=>by rw[h]
 by_cases hm:(d:Int)=45
 .go_enter func293,ntmps293
  go_wp2_with fail;go_ret;exact ⟨HV.out _ (decide_eq_true om),rfl⟩
 by_cases hn:48<=d/\d<=57
 .have HC:Hid (CS 218 #[.int .u8 d] w (G true)):=by
   have:=IF d w hd
   rw[decide_eq_true (show 48<=(d:Int) by omega),decide_eq_true (show (d:Int)<=57 by omega)]at this;exact this
  go_enter func293,ntmps293;go_wp2_with fail;refine HC.out.mono ?_;rintro e w' ⟨rfl,rfl⟩;go_wp2_with fail;go_ret;exact ⟨HV.out _ (decide_eq_true om),rfl⟩
 have HC:Hid (CS 218 #[.int .u8 d] w (G false)):=by
  have:=IF d w hd
  have e:(decide (48<=(d:Int))&&decide ((d:Int)<=57))=false:=by simp;omega
  rw[e]at this;exact this
 by_cases h1:97<=(d:Int)
 .by_cases h2:(d:Int)<=122
  .go_enter func293,ntmps293
   go_wp2_with fail;refine HC.out.mono ?_;rintro e w' ⟨rfl,rfl⟩;go_wp2_with fail;go_ret;exact ⟨HV.out _ (decide_eq_true om),rfl⟩
  go_enter func293,ntmps293;go_wp2_with fail;refine HC.out.mono ?_;rintro e w' ⟨rfl,rfl⟩;go_wp2_with fail;go_ret;exact ⟨HV.out _ (by unfold YW;rw[zo];simp;omega),rfl⟩
 go_enter func293,ntmps293;go_wp2_with fail;refine HC.out.mono ?_;rintro e w' ⟨rfl,rfl⟩;go_wp2_with fail;go_ret;exact ⟨HV.out _ (by unfold YW;rw[zo];simp;omega),rfl⟩
theorem QG{u:ByteArray}(h:0<u.size):u.toList.isEmpty=false:=by
 cases he:u.toList.isEmpty with
 |false=>rfl
 |true=>
  rw[ByteArray.toList_eq,List.isEmpty_iff_length_eq_zero]at he
  have:u.size=0:=by simpa using he
  omega
theorem pH(s:ByteArray)(w:World)(hs:s.size<=maxLen):Calls prog 289 #[L s] w fun e w'=>e=Y (G (eS s.data.toList))/\w=w':=by
 unfold maxLen at hs;have HV:Hid (∀b:Bool,eS s.data.toList=b->(Y (G b):Ending)=Y (G (eS s.data.toList))):=fun b h=>by rw[h]
 by_cases hz:s=⟨#[]⟩
 .have HF:Hid (eS s.data.toList=false):=by subst hz;show _=_;rfl
  subst hz;go_enter func289,ntmps289;go_wp2_with fail;go_ret;exact ⟨HV.out _ HF.out,rfl⟩
 have hr1:0<s.size:=by
  apply Nat.pos_of_ne_zero;intro h;exact hz (zq (Array.eq_empty_of_size_eq_zero h))
 have hem:=QG hr1
 by_cases hr2:(s.size:Int)<=63
 .have hr3: ¬63<(s.size:Int):=om
  by_cases h0:(s[0]'om).toNat=45
  .have HF:Hid (eS s.data.toList=false):=SZ s om h0
   go_enter func289,ntmps289;go_wp2_with fail;go_ret;exact ⟨HV.out _ HF.out,rfl⟩
  by_cases h1:(s[s.size-1]'om).toNat=45
  .have HF:Hid (eS s.data.toList=false):=TB s om h1
   go_enter func289,ntmps289;go_wp2_with fail;go_ret;exact ⟨HV.out _ HF.out,rfl⟩
  have q0:(((s[0]'om).toNat:Int)==45)=false:=beq_eq_false_iff_ne.2 om;have q1:(((s[s.size-1]'om).toNat:Int)==45)=false:=beq_eq_false_iff_ne.2 om;have HY:Hid ((∀c∈s.data.toList.take s.size,iS c=true)->eS s.data.toList=true):=F1 s om h0 h1;clear h0 h1;go_enter func289,ntmps289;go_wp2_with fail
  go_loop[26] (fun i=> ∃k:Nat,k<=s.size/\i=I J k/\ ∀c∈s.data.toList.take k,iS c=true) (fun i=>s.size-(intOf i).toNat)
  case atStart=>exact ⟨0,Nat.zero_le _,rfl,fun c h=>by simp at h⟩
  obtain ⟨k,hk,rfl,hall⟩:=hrel;have HA:Hid (∀c∈s.data.toList.take k,iS c=true):=hall;clear hall
  by_cases hlt:k<s.size
  .obtain ⟨d,hd⟩: ∃d:Nat,s[k].toNat=d:=⟨_,rfl⟩
   have hd1:(d:Int)<=255:=by have:=s[k].toNat_lt;omega
   have HS:Hid ((97<=d/\d<=122)∨(48<=d/\d<=57)∨d=45-> ∀c∈s.data.toList.take (k+1),iS c=true):=fun hc=>TD s k hlt d hd hc HA.out
   have HN:Hid (¬((97<=d/\d<=122)∨(48<=d/\d<=57)∨d=45)->eS s.data.toList=false):=fun hc=>TC s k hlt (by rw[hd];exact hc)
   have HC:Hid (∀W,CS 293 #[.int .u8 d] W (G (YW d))):=fun W=>DM d W hd1
   cases hb:YW d with
   |true=>
    have HB:Hid ((97<=d/\d<=122)∨(48<=d/\d<=57)∨d=45):=by
     have:=of_decide_eq_true (p:=(97<=d/\d<=122)∨(48<=d/\d<=57)∨d=45) hb
     exact this
    rw[hb]at HC;clear hb;go_wp2_with fail;refine (HC.out _).mono ?_;rintro e w' ⟨rfl,rfl⟩;go_wp2_with fail;go_round
    case rel=>exact ⟨k+1,om,gn,HS.out HB.out⟩
    case measure=>exact j1
   |false=>
    have HB:Hid (¬((97<=d/\d<=122)∨(48<=d/\d<=57)∨d=45)):=by
     have:=of_decide_eq_false (p:=(97<=d/\d<=122)∨(48<=d/\d<=57)∨d=45) hb
     exact this
    rw[hb]at HC;clear hb;go_wp2_with fail;refine (HC.out _).mono ?_;rintro e w' ⟨rfl,rfl⟩;go_wp2_with fail;go_ret;exact ⟨HV.out _ (HN.out HB.out),rfl⟩
  have hks:k=s.size:=om;subst hks;go_wp2_with fail;go_ret;exact ⟨HV.out _ (HY.out HA.out),rfl⟩
 have HF:Hid (eS s.data.toList=false):=SY s om;go_enter func289,ntmps289;go_wp2_with fail;go_ret;exact ⟨HV.out _ HF.out,rfl⟩
theorem yZ(t:List UInt8):okA t=(eS t&&(!(pO t)||(iJ t).isSome)):=by
 unfold okA iJ
 cases pO t<;>simp
theorem pI{o:Option (List UInt8)}{t:List UInt8}(h:o=if okA t=true then some t else none)(h1:okA t=true):dW o=H #[L ⟨t.toArray⟩,G true]:=by
 rw[h,if_pos h1];rfl
theorem tC{o:Option (List UInt8)}{t:List UInt8}(h:o=if okA t=true then some t else none)(h1:okA t=false):dW o=H #[L ⟨#[]⟩,G false]:=by
 rw[h,if_neg (by rw[h1];decide)];rfl
theorem VK(s:ByteArray)(w:World)(hs:s.size<=1048576)(hT:Lib.Utf8Tabs 12 13 w):Calls prog 282 #[L s] w fun e w'=>e=Y (dW (fQ s.data.toList))/\Below w.heap.size w w':=by
 have CLo:Hid (CB 172 #[L s] w (L ⟨(aE s.data.toList).toArray⟩)):=zT s w hs;have hls:=sS s;have HLS:Hid ((⟨(aE s.data.toList).toArray⟩:ByteArray).size<=1048576):=by show _<=_;omega
 have HTT:Hid (Lib.Utf8Tabs 12 13 w):=hT;have HM:Hid (zp ⟨(aE s.data.toList).toArray⟩<=maxLen):=by show _<=_;unfold maxLen;omega
 have CA:Hid (∀W,CS 287 #[L ⟨(aE s.data.toList).toArray⟩] W (G (fY s.data.toList))):=fun W=>by
  have h:=O5 ⟨(aE s.data.toList).toArray⟩ W HM.out;rw[show fY (⟨(aE s.data.toList).toArray⟩:ByteArray).data.toList=fY (aE s.data.toList) from rfl,TE]at h;exact h
 clear hT hls
 cases ha:fY s.data.toList with
 |true=>
  rw[ha]at CA;have HAS:Hid (fQ s.data.toList=if okA (aE s.data.toList)=true then some (aE s.data.toList)else none):=FT ha;clear ha;generalize aE s.data.toList=t at CLo CA HAS HM HLS;go_enter func282,ntmps282;go_wp2_with fail;refine CLo.out.mono ?_;rintro e wa ⟨rfl,ba⟩;go_wp2_with fail;refine (CA.out _).mono ?_;rintro e w' ⟨rfl,rfl⟩;have HK:=yZ t;have hzz:(⟨t.toArray⟩:ByteArray).size<=maxLen:=HM.out
  cases hl:eS t with
  |false=>
   have HF:Hid (dW (fQ s.data.toList)=H #[L ⟨#[]⟩,G false]):=tC HAS.out (by rw[HK,hl];rfl);have CL:Hid (∀W,CS 289 #[L ⟨t.toArray⟩] W (G false)):=fun W=>by
    have h:=pH ⟨t.toArray⟩ W hzz;rw[show eS (⟨t.toArray⟩:ByteArray).data.toList=eS t from rfl,hl]at h;exact h
   clear HK hl hzz;go_wp2_with fail;refine (CL.out _).mono ?_;rintro e w' ⟨rfl,rfl⟩;go_wp2_with fail;go_ret2;exact ⟨by rw[HF.out];rfl,ba⟩
  |true=>
   have CL:Hid (∀W,CS 289 #[L ⟨t.toArray⟩] W (G true)):=fun W=>by
    have h:=pH ⟨t.toArray⟩ W hzz;rw[show eS (⟨t.toArray⟩:ByteArray).data.toList=eS t from rfl,hl]at h;exact h
   have CC:=fun W=>IE ⟨t.toArray⟩ W
   have CK:Hid (∀W,CB 290 #[L ⟨t.toArray⟩] W (G (okA t))):=fun W=>by
    rw[HK,hl];exact CC W
   clear HK hl hzz CC
   cases ho:okA t with
   |false=>
    have HF:Hid (dW (fQ s.data.toList)=H #[L ⟨#[]⟩,G false]):=tC HAS.out ho;rw[ho]at CK;clear ho;go_wp2_with fail;refine (CL.out _).mono ?_;rintro e w' ⟨rfl,rfl⟩;go_wp2_with fail;refine (CK.out _).mono ?_;rintro e wz ⟨rfl,bz⟩;have B:=ba.trans (bz.mono ba.size);clear bz;go_wp2_with fail;go_ret2;exact ⟨by rw[HF.out];rfl,B⟩
   |true=>
    have HF:Hid (dW (fQ s.data.toList)=H #[L ⟨t.toArray⟩,G true]):=pI HAS.out ho;rw[ho]at CK;clear ho;go_wp2_with fail;refine (CL.out _).mono ?_;rintro e w' ⟨rfl,rfl⟩;go_wp2_with fail;refine (CK.out _).mono ?_;rintro e wz ⟨rfl,bz⟩;have B:=ba.trans (bz.mono ba.size);clear bz;go_wp2_with fail;go_ret2;exact ⟨by rw[HF.out];rfl,B⟩
 |false=>
  rw[ha]at CA
  by_cases hy:(cS ⟨(aE s.data.toList).toArray⟩).1=s.data.toList.length/\(cS ⟨(aE s.data.toList).toArray⟩).2.length<=60
  .have hz:(⟨(aE s.data.toList).toArray⟩:ByteArray).size=s.data.toList.length:=by rw[sS];simp
   have hy1:(cS ⟨(aE s.data.toList).toArray⟩).1=(⟨(aE s.data.toList).toArray⟩:ByteArray).size:=hy.1.trans hz.symm;have CC:Hid (∀W,Lib.Utf8Tabs 12 13 W->CB 288 #[L ⟨(aE s.data.toList).toArray⟩] W (H #[L ⟨(xn++b8 (bJ ((cS ⟨(aE s.data.toList).toArray⟩).2.map zd))).toArray⟩,G true])):=
    fun W hT=>yY _ W HLS.out hT hy1 hy.2
   have HAS:=TF ha hy;have HN:(xn++b8 (bJ ((cS ⟨(aE s.data.toList).toArray⟩).2.map zd))).length<=604:=by
    rw[zk,tZ]
    have:=xU (qR (uG _ hy1) hy.2)
    simp[xn];omega
   generalize xn++b8 (bJ ((cS ⟨(aE s.data.toList).toArray⟩).2.map zd))=t at CC HAS HN;have HAS:Hid (fQ s.data.toList=if okA t=true then some t else none):=HAS;have HM2:Hid (zp ⟨t.toArray⟩<=maxLen):=by
    show t.toArray.size<=maxLen;rw[zn];unfold maxLen;omega
   clear ha hy hy1 hz HN;go_enter func282,ntmps282;go_wp2_with fail;refine CLo.out.mono ?_;rintro e wa ⟨rfl,ba⟩;go_wp2_with fail;refine (CA.out _).mono ?_;rintro e w' ⟨rfl,rfl⟩;go_wp2_with fail;refine (CC.out _ (cV HTT.out ba)).mono ?_;rintro e wb ⟨rfl,bb⟩;have b2:=ba.trans (bb.mono ba.size);clear ba bb;have HK:=yZ t;have hzz:(⟨t.toArray⟩:ByteArray).size<=maxLen:=HM2.out
   cases hl:eS t with
   |false=>
    have HF:Hid (dW (fQ s.data.toList)=H #[L ⟨#[]⟩,G false]):=tC HAS.out (by rw[HK,hl];rfl);have CL:Hid (∀W,CS 289 #[L ⟨t.toArray⟩] W (G false)):=fun W=>by
     have h:=pH ⟨t.toArray⟩ W hzz;rw[show eS (⟨t.toArray⟩:ByteArray).data.toList=eS t from rfl,hl]at h;exact h
    clear HK hl hzz;go_wp2_with fail;refine (CL.out _).mono ?_;rintro e w' ⟨rfl,rfl⟩;go_wp2_with fail;go_ret2;exact ⟨by rw[HF.out];rfl,b2⟩
   |true=>
    have CL:Hid (∀W,CS 289 #[L ⟨t.toArray⟩] W (G true)):=fun W=>by
     have h:=pH ⟨t.toArray⟩ W hzz;rw[show eS (⟨t.toArray⟩:ByteArray).data.toList=eS t from rfl,hl]at h;exact h
    have CC:=fun W=>IE ⟨t.toArray⟩ W
    have CK:Hid (∀W,CB 290 #[L ⟨t.toArray⟩] W (G (okA t))):=fun W=>by
     rw[HK,hl];exact CC W
    clear HK hl hzz CC
    cases ho:okA t with
    |false=>
     have HF:Hid (dW (fQ s.data.toList)=H #[L ⟨#[]⟩,G false]):=tC HAS.out ho;rw[ho]at CK;clear ho;go_wp2_with fail;refine (CL.out _).mono ?_;rintro e w' ⟨rfl,rfl⟩;go_wp2_with fail;refine (CK.out _).mono ?_;rintro e wz ⟨rfl,bz⟩;have B:=b2.trans (bz.mono b2.size);clear bz;go_wp2_with fail;go_ret2;exact ⟨by rw[HF.out];rfl,B⟩
    |true=>
     have HF:Hid (dW (fQ s.data.toList)=H #[L ⟨t.toArray⟩,G true]):=pI HAS.out ho;rw[ho]at CK;clear ho;go_wp2_with fail;refine (CL.out _).mono ?_;rintro e w' ⟨rfl,rfl⟩;go_wp2_with fail;refine (CK.out _).mono ?_;rintro e wz ⟨rfl,bz⟩;have B:=b2.trans (bz.mono b2.size);clear bz;go_wp2_with fail;go_ret2;exact ⟨by rw[HF.out];rfl,B⟩
  have hz:(⟨(aE s.data.toList).toArray⟩:ByteArray).size=s.data.toList.length:=by rw[sS];simp
  have CC:Hid (∀W,Lib.Utf8Tabs 12 13 W->Calls prog 288 #[L ⟨(aE s.data.toList).toArray⟩] W fun e w'=>(∃t:ByteArray,e=Y (H #[L t,G false]))/\Below W.heap.size W w'):=
   fun W hT=>AV _ W HLS.out hT (by rw[hz];exact hy)
  have HF:Hid (dW (fQ s.data.toList)=H #[L ⟨#[]⟩,G false]):=by show _=_;rw[OM ha hy];rfl
  clear ha hy hz;go_enter func282,ntmps282;go_wp2_with fail;refine CLo.out.mono ?_;rintro e wa ⟨rfl,ba⟩;go_wp2_with fail;refine (CA.out _).mono ?_;rintro e w' ⟨rfl,rfl⟩;go_wp2_with fail;refine (CC.out _ (cV HTT.out ba)).mono ?_;rintro e wb ⟨⟨t,rfl⟩,bb⟩;have b2:=ba.trans (bb.mono ba.size);clear ba bb;go_wp2_with fail;go_ret2;exact ⟨by rw[HF.out];rfl,b2⟩
