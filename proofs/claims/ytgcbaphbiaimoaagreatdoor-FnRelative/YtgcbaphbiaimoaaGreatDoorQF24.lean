/- DecImpl, RuneAtWalk, RunesWalk, AscBase. -/
import Derived.Test.YtgcbaphbiaimoaaGreatDoorQF23
import Derived.Lib.OthersKept
set_option maxHeartbeats 4000000
set_option maxRecDepth 100000
namespace Go.Proofs.YtgcbaphbiaimoaaGreatDoor
open Go.Value renaming int->I,string->L,tuple->H,bool->G
open Go.IntKind renaming i64->J
open Go.Ending renaming returned->Y
open Go.Obj renaming cells->Z
open _root_.Go.RowKit.Below renaming refl->zc
open _root_.Int renaming toNat->zf
open _root_.List renaming eq_nil_of_length_eq_zero->zh,length_map->zj
open _root_.Nat renaming le_refl->zd,reduceAdd->zk,zero_add->zg
open _root_.Go.World renaming ownsRow_lit->ze
open _root_.Go.Proofs.Tryz
open _root_.Go.Proofs.YtgcbaphbiaimoaaGreatDoor.Tryz
section
open Go.RowKit Go.Shelf
theorem ER(l:List Nat)(v:Value)(B:Nat)(w:World)(hl:l.length<=1048576)(hown:w.ownsRow B 3 1 v l.length (icN l)):Calls prog 292 #[v] w fun e w'=>e=Y (H #[L ⟨(b8 (if dY l=true then bC l else [])).toArray⟩,G (dY l)])/\Below w.heap.size w w':=by
 rcases aQ hown with ⟨h0,_,ao,cap,rfl⟩|⟨_,g,cap,rfl⟩
 .have hl0:l=[]:=zh h0
  subst hl0;refine j6 (uS ao cap w) fun w' hb=>?_
  exact ⟨rfl,hb⟩
 by_cases hok:dY l=true
 .rw[if_pos hok,hok]
  exact uR l l.length g cap B w hok rfl hown
 rw[if_neg hok];have hf:dY l=false:=by simpa using hok
 rw[hf];exact xB (l.map fun (c:Nat)=>(c:Int)) l.length g cap B w (fun h=>hok (AS.2 h)) j2 hl hown
theorem YN{s l:List Nat}(h:cL s=some l):kZ s=some l:=by
 unfold cL at h;split at h
 .next l' hr=>
  split at h
  .cases h;exact hr
  cases h
 cases h
theorem F5:cP []=none:=rfl
theorem Y9{s l:List Nat}(h:cP s=some ([],s.drop 1))(hd:cL s=some l):False:=by
 obtain ⟨_,he⟩:=(qJ s l).1 hd;obtain ⟨p1,p2⟩:=IG l;rw[he]at p1 p2;have h1:headD s=[]:=by unfold headD;rw[h]
 have h2:vV s=s.drop 1:=by unfold vV;rw[h]
 rw[h1]at p1;have h3:s=(rS l).map bH:=by
  rw[<-he];unfold bC;rw[<-p1];rfl
 rw[<-h3,h2]at p2;have h4:=congrArg List.length p2;rw[List.length_drop]at h4;have h5:s=[]:=zh om;rw[h5,F5]at h
 cases h
theorem ES(s:ByteArray)(w:World)(hs600:(s.size:Int)<=600):Calls prog 295 #[L s] w fun e w'=>kA w w' (cL (sN s)) e/\Below w.heap.size w w':=by
 have hng: ¬600<(s.size:Int):=om;go_enter func295,ntmps295;go_wp2_with fail;refine (Y8 s w hs600).mono ?_;rintro e w2 ⟨hans,hb⟩;obtain ⟨R,hR,HD⟩: ∃R:Option (List Nat),fY w w2 R e/\ ∀l,cL (sN s)=some l->R=some l:=by
  rcases hans with ⟨k,hk,hks,hsp,hr⟩|⟨hsp|hsp,hr⟩
  .refine ⟨_,hr,fun l hl=> ?_⟩
   have h1:=YN hl;unfold kZ headD vV at h1;rw[hsp,bM]at h1;simp only at h1;rw[List.length_take,bM,Nat.min_eq_left om]at h1;exact MV k _ _ _ _ _ _ l de h1
  .refine ⟨_,hr,fun l hl=> ?_⟩
   have h1:=YN hl;unfold kZ headD vV at h1;rw[hsp,bM]at h1;exact MV 0 _ _ _ _ _ _ l de h1
  exact ⟨_,hr,fun l hl=>(Y9 hsp hl).elim⟩
 have HDD:Hid (∀l,cL (sN s)=some l->R=some l):=HD;have HB:Hid (Below w.heap.size w w2):=hb;have hsz:=hb.size;clear hans HD hb
 rcases hR with ⟨hno,rfl⟩|⟨l,v,hyes,hl6,rfl,hown⟩
 .have HN:Hid (cL (sN s)=none):=by
   show _=_
   cases hd:cL (sN s)with
   |none=>rfl
   |some l=>have:=HDD.out l hd;rw[hno]at this;cases this
  have HZ:Hid ((w2.alloc (Z #[] 3)).ownsRow w.heap.size 3 1 (.slice (some ⟨w2.heap.size,0,none⟩) 0 0) 0 []):=ze w2 #[] 0 hsz de rfl;clear hno;go_wp2_with fail;go_ret2;exact ⟨bJ HN.out HZ.out rfl,HB.out.alloc hsz _⟩
 have CE:Hid (CB 292 #[v] w2 (H #[L ⟨(b8 (if dY l=true then bC l else [])).toArray⟩,G (dY l)])):=ER l v w.heap.size w2 om hown;have HOW:Hid (w2.ownsRow w.heap.size 3 1 v l.length (icN l)):=hown;have HAL:Hid (∀l',cL (sN s)=some l'->l'=l):=fun l' h=>by
  have:=HDD.out l' h
  rw[hyes]at this;injection this with this;exact this.symm
 clear hyes HDD;obtain ⟨ao,cp,hu⟩:=gR hown;subst hu;clear hown
 by_cases hok:dY l=true
 .rw[if_pos hok,hok]at CE
  by_cases heq:bC l=sN s
  .have HY:Hid (cL (sN s)=some l):=(qJ _ _).2 ⟨hok,heq⟩
   have hst:=xU ((IR s (bC l) (fun c hc=>by have:=mO c hc;omega)).2 heq);generalize (⟨(b8 (bC l)).toArray⟩:ByteArray)=t at CE hst;clear hok heq;go_wp2_with fail;refine CE.out.mono ?_;rintro e w3 ⟨rfl,hb3⟩;have HO3:Hid (w3.ownsRow w.heap.size 3 1 (.slice ao l.length cp) l.length (icN l)):=aH HOW.out hb3;have HB3:Hid (Below w.heap.size w w3):=HB.out.trans (hb3.mono hsz);clear hb3;go_wp2_with fail;go_ret2;exact ⟨lB HY.out HO3.out rfl,HB3.out⟩
  have HN:Hid (cL (sN s)=none):=by
   show _=_
   cases hd:cL (sN s)with
   |none=>rfl
   |some l'=>
    have h1:=HAL.out l' hd;rw[h1]at hd;exact absurd ((qJ _ _).1 hd).2 heq
  have hst:=mZ (fun h=>heq ((IR s (bC l) (fun c hc=>by have:=mO c hc;omega)).1 h));generalize (⟨(b8 (bC l)).toArray⟩:ByteArray)=t at CE hst;clear hok heq;go_wp2_with fail;refine CE.out.mono ?_;rintro e w3 ⟨rfl,hb3⟩;have hsz3:w.heap.size<=w3.heap.size:=Nat.le_trans hsz hb3.size;have HB3:Hid (Below w.heap.size w w3):=HB.out.trans (hb3.mono hsz);have HZ:Hid ((w3.alloc (Z #[] 3)).ownsRow w.heap.size 3 1 (.slice (some ⟨w3.heap.size,0,none⟩) 0 0) 0 []):=ze w3 #[] 0 hsz3 de rfl;clear hb3;go_wp2_with fail;go_ret2;exact ⟨bJ HN.out HZ.out rfl,HB3.out.alloc hsz3 _⟩
 have HN:Hid (cL (sN s)=none):=by
  show _=_
  cases hd:cL (sN s)with
  |none=>rfl
  |some l'=>
   have h1:=HAL.out l' hd;rw[h1]at hd;exact absurd ((qJ _ _).1 hd).1 hok
 rw[if_neg hok,show dY l=false by simpa using hok]at CE;generalize (⟨(b8 []).toArray⟩:ByteArray)=t at CE;clear hok;go_wp2_with fail;refine CE.out.mono ?_;rintro e w3 ⟨rfl,hb3⟩;have hsz3:w.heap.size<=w3.heap.size:=Nat.le_trans hsz hb3.size;have HB3:Hid (Below w.heap.size w w3):=HB.out.trans (hb3.mono hsz);have HZ:Hid ((w3.alloc (Z #[] 3)).ownsRow w.heap.size 3 1 (.slice (some ⟨w3.heap.size,0,none⟩) 0 0) 0 []):=ze w3 #[] 0 hsz3 de rfl;clear hb3;go_wp2_with fail;go_ret2;exact ⟨bJ HN.out HZ.out rfl,HB3.out.alloc hsz3 _⟩
theorem uU(s:ByteArray)(w:World)(hs:600<(s.size:Int)):Calls prog 295 #[L s] w fun e w'=>kA w w' none e/\Below w.heap.size w w':=by
 go_enter func295,ntmps295;go_wp2;go_ret2;exact ⟨bJ rfl (ze w #[] 0 (zd _) de rfl) rfl,(zc _ _).alloc (zd _) _⟩
end
section
open Go.RowKit
def gA(s:ByteArray)(p:Nat)(r0:Int):Nat->Int
 |0=>r0
 |m+1=>gA s p r0 m*64+(bt s (p+(m+1)):Int)%64
theorem uV(s:ByteArray)(p:Nat)(r0:Int)(h0:0<=r0)(h1:r0<32): ∀m,m<=3->0<=gA s p r0 m/\gA s p r0 m<8388608
 |0,_=>by simp only[gA];omega
 |1,_=>by simp only[gA];omega
 |2,_=>by simp only[gA];omega
 |3,_=>by simp only[gA];omega
theorem RS(s:ByteArray)(p c:Nat)(w:World)(hp:p<s.size)(hs:s.size<=1099511627776)(hc:s[p].toNat=c)(hb1:194<=c)(hb2:c<=223):Calls prog 225 #[L s,I J (p:Int)] w fun e w'=>e=Y (H #[I J (bL s p).1,I J (bL s p).2])/\Below w.heap.size w w':=by
 have e0:bits .and .i64 (c:Int) 31=(c:Int)%32:=ZK _ om om;have hbt:bt s p=c:=by rw[tG s p hp,hc]
 have HBT:Hid (bt s p=c):=hbt;clear hbt
 by_cases hshort:p+2<=s.size
 .have hsh: ¬((s.size:Int)<(p:Int)+2):=om
  go_enter func225,ntmps225;go_wp2_with fail;refine j5 (aJ _ 194 223 _ om om) ?_;go_wp2_with fail;clear e0
  go_loop[8,9] (fun r i=> ∃m:Nat,m<=1/\i=I J ((m:Int)+1)/\r=I J (gA s p ((c:Int)%32) m)/\ ∀j,j<m->128<=bt s (p+(j+1))/\bt s (p+(j+1))<=191) (fun _ i=>3-(intOf i).toNat)
  case atStart=>exact ⟨0,om,rfl,rfl,fun j h=>by omega⟩
  obtain ⟨m,hm,rfl,rfl,hall⟩:=hrel;have HA:Hid (∀j,j<m->128<=bt s (p+(j+1))/\bt s (p+(j+1))<=191):=hall;clear hall;have hab:=uV s p ((c:Int)%32) om om m om
  by_cases hlt:m<1
  .have hq:p+(m+1)<s.size:=om
   obtain ⟨d,hd⟩: ∃d:Nat,s[p+(m+1)].toNat=d:=⟨_,rfl⟩;have hd255:d<=255:=by have:=s[p+(m+1)].toNat_lt;omega
   have HD:Hid (bt s (p+(m+1))=d):=by show _=_;rw[tG s _ hq,hd]
   have HN:Hid (gA s p ((c:Int)%32) (m+1)=gA s p ((c:Int)%32) m*64+(d:Int)%64):=by show _=_;rw[gA,HD.out]
   generalize gA s p ((c:Int)%32) m=a at hab HN⊢;obtain ⟨ha0,ha1⟩:=hab;have e1:bits .and .i64 (d:Int) 63=(d:Int)%64:=xW _ om om;have e2:bits .or .i64 (a*64) ((d:Int)%64)=a*64+(d:Int)%64:=hG 6 _ _ om om om om om om
   by_cases hg:128<=d/\d<=191
   .obtain ⟨hg1,hg2⟩:=hg
    go_wp2_with fail;refine j5 (aJ _ 128 191 _ om om) ?_;go_wp2_with fail;go_round
    case rel=>
     refine ⟨m+1,om,gn,by rw[HN.out],fun j hj=> ?_⟩
     by_cases e:j=m
     .subst e;rw[HD.out];exact ⟨hg1,hg2⟩
     exact HA.out j om
    case measure=>exact j1
   have HG:Hid (((d:Int)<128)∨(191:Int)<(d:Int)):=by show _∨_;omega
   have hR:=ID s p (by rw[HBT.out];omega) (by
    intro hh
    have:=HD.out
    have hg':=hg
    obtain rfl:m=0:=om
    all_goals (simp only[zg]at this;omega))
   have HR:Hid (bL s p=(0,0)):=hR;clear hg hR;go_wp2_with fail;refine j5 (aN _ 128 191 _ HG.out) ?_;go_wp2_with fail;go_ret2;exact ⟨by rw[HR.out];rfl,zc _ _⟩
  have hme:m=1:=om;subst hme;clear hm hlt;have hr:gA s p ((c:Int)%32) 1=(bt s p:Int)%32*64+(bt s (p+1):Int)%64:=by
   rw[HBT.out];simp only[gA,zg]
  have hR:=rune2 s p (by rw[HBT.out];omega) ⟨om,(HA.out 0 om).1,(HA.out 0 om).2⟩;rw[<-hr]at hR;have hlo:128<=gA s p ((c:Int)%32) 1:=by rw[hr,HBT.out];omega
  have hhi:gA s p ((c:Int)%32) 1<=2047:=by rw[hr,HBT.out];omega
  generalize gA s p ((c:Int)%32) 1=r at hR hlo hhi⊢;have HR:Hid (bL s p=(r,2)):=hR;clear hR hr hab;go_wp2_with fail;refine j5 (dR r _ ⟨om,om,om⟩) ?_;go_wp2_with fail;go_ret2;exact ⟨by rw[HR.out];rfl,(zc _ _).alloc (zd _) _⟩
 have hR:=ID s p (by rw[HBT.out];omega) om;have HR:Hid (bL s p=(0,0)):=hR;clear hR;go_enter func225,ntmps225;go_wp2_with fail;refine j5 (aJ _ 194 223 _ om om) ?_;go_wp2_with fail;go_ret2;exact ⟨by rw[HR.out];rfl,zc _ _⟩
theorem RU(s:ByteArray)(p c:Nat)(w:World)(hp:p<s.size)(hs:s.size<=1099511627776)(hc:s[p].toNat=c)(hb1:224<=c)(hb2:c<=239):Calls prog 225 #[L s,I J (p:Int)] w fun e w'=>e=Y (H #[I J (bL s p).1,I J (bL s p).2])/\Below w.heap.size w w':=by
 have e0:bits .and .i64 (c:Int) 15=(c:Int)%16:=ZL _ om om;have hbt:bt s p=c:=by rw[tG s p hp,hc]
 have HBT:Hid (bt s p=c):=hbt;clear hbt
 by_cases hshort:p+3<=s.size
 .have hsh: ¬((s.size:Int)<(p:Int)+3):=om
  go_enter func225,ntmps225;go_wp2_with fail;refine j5 (aN _ 194 223 _ (.inr om)) ?_;go_wp2_with fail;refine j5 (aJ _ 224 239 _ om om) ?_;go_wp2_with fail;clear e0
  go_loop[8,9] (fun r i=> ∃m:Nat,m<=2/\i=I J ((m:Int)+1)/\r=I J (gA s p ((c:Int)%16) m)/\ ∀j,j<m->128<=bt s (p+(j+1))/\bt s (p+(j+1))<=191) (fun _ i=>4-(intOf i).toNat)
  case atStart=>exact ⟨0,om,rfl,rfl,fun j h=>by omega⟩
  obtain ⟨m,hm,rfl,rfl,hall⟩:=hrel;have HA:Hid (∀j,j<m->128<=bt s (p+(j+1))/\bt s (p+(j+1))<=191):=hall;clear hall;have hab:=uV s p ((c:Int)%16) om om m om
  by_cases hlt:m<2
  .have hq:p+(m+1)<s.size:=om
   obtain ⟨d,hd⟩: ∃d:Nat,s[p+(m+1)].toNat=d:=⟨_,rfl⟩;have hd255:d<=255:=by have:=s[p+(m+1)].toNat_lt;omega
   have HD:Hid (bt s (p+(m+1))=d):=by show _=_;rw[tG s _ hq,hd]
   have HN:Hid (gA s p ((c:Int)%16) (m+1)=gA s p ((c:Int)%16) m*64+(d:Int)%64):=by show _=_;rw[gA,HD.out]
   generalize gA s p ((c:Int)%16) m=a at hab HN⊢;obtain ⟨ha0,ha1⟩:=hab;have e1:bits .and .i64 (d:Int) 63=(d:Int)%64:=xW _ om om;have e2:bits .or .i64 (a*64) ((d:Int)%64)=a*64+(d:Int)%64:=hG 6 _ _ om om om om om om
   by_cases hg:128<=d/\d<=191
   .obtain ⟨hg1,hg2⟩:=hg
    go_wp2_with fail;refine j5 (aJ _ 128 191 _ om om) ?_;go_wp2_with fail;go_round
    case rel=>
     refine ⟨m+1,om,gn,by rw[HN.out],fun j hj=> ?_⟩
     by_cases e:j=m
     .subst e;rw[HD.out];exact ⟨hg1,hg2⟩
     exact HA.out j om
    case measure=>exact j1
   have HG:Hid (((d:Int)<128)∨(191:Int)<(d:Int)):=by show _∨_;omega
   have hR:=IE s p (by rw[HBT.out];omega) (by
    intro hh
    have:=HD.out
    have hg':=hg
    rcases (show m=0∨m=1 by omega)with rfl|rfl
    all_goals (simp only[zg,zk]at this;omega))
   have HR:Hid (bL s p=(0,0)):=hR;clear hg hR;go_wp2_with fail;refine j5 (aN _ 128 191 _ HG.out) ?_;go_wp2_with fail;go_ret2;exact ⟨by rw[HR.out];rfl,zc _ _⟩
  have hme:m=2:=om;subst hme;clear hm hlt;have hr:gA s p ((c:Int)%16) 2=(bt s p:Int)%16*4096+(bt s (p+1):Int)%64*64+(bt s (p+2):Int)%64:=by
   rw[HBT.out];simp only[gA,zg,zk];omega
  have hR:=rune3 s p (gA s p ((c:Int)%16) 2) (by rw[HBT.out];omega) ⟨om,(HA.out 0 om).1,(HA.out 0 om).2,om,(HA.out 1 om).1,(HA.out 1 om).2⟩ hr;have hhi:gA s p ((c:Int)%16) 2<=65535:=by rw[hr,HBT.out];omega
  generalize gA s p ((c:Int)%16) 2=r at hR hab hhi⊢;obtain ⟨ha0,ha1⟩:=hab;clear hr
  by_cases hl:r<2048
  .rw[if_pos (.inl hl)]at hR
   have HR:Hid (bL s p=(0,0)):=hR;clear hR;go_wp2_with fail;go_ret2;exact ⟨by rw[HR.out];rfl,(zc _ _).alloc (zd _) _⟩
  by_cases hg: ¬(r<55296∨57343<r)
  .rw[if_pos (.inr hg)]at hR
   have HR:Hid (bL s p=(0,0)):=hR;have HG:Hid (¬dH r):=by show ¬_;unfold dH;omega
   clear hR hg;go_wp2_with fail;refine j5 (lL r _ HG.out) ?_;go_wp2_with fail;go_ret2;exact ⟨by rw[HR.out];rfl,(zc _ _).alloc (zd _) _⟩
  rw[if_neg om]at hR;have HR:Hid (bL s p=(r,3)):=hR;have HG:Hid (dH r):=by show dH r;unfold dH;omega
  clear hR hg;go_wp2_with fail;refine j5 (dR r _ HG.out) ?_;go_wp2_with fail;go_ret2;exact ⟨by rw[HR.out];rfl,(zc _ _).alloc (zd _) _⟩
 have hR:=IE s p (by rw[HBT.out];omega) om;have HR:Hid (bL s p=(0,0)):=hR;clear hR;go_enter func225,ntmps225;go_wp2_with fail;refine j5 (aN _ 194 223 _ (.inr om)) ?_;go_wp2_with fail;refine j5 (aJ _ 224 239 _ om om) ?_;go_wp2_with fail;go_ret2;exact ⟨by rw[HR.out];rfl,zc _ _⟩
theorem RV(s:ByteArray)(p c:Nat)(w:World)(hp:p<s.size)(hs:s.size<=1099511627776)(hc:s[p].toNat=c)(hb1:240<=c)(hb2:c<=244):Calls prog 225 #[L s,I J (p:Int)] w fun e w'=>e=Y (H #[I J (bL s p).1,I J (bL s p).2])/\Below w.heap.size w w':=by
 have e0:bits .and .i64 (c:Int) 7=(c:Int)%8:=K8 _ om om;have hbt:bt s p=c:=by rw[tG s p hp,hc]
 have HBT:Hid (bt s p=c):=hbt;clear hbt
 by_cases hshort:p+4<=s.size
 .have hsh: ¬((s.size:Int)<(p:Int)+4):=om
  go_enter func225,ntmps225;go_wp2_with fail;refine j5 (aN _ 194 223 _ (.inr om)) ?_;go_wp2_with fail;refine j5 (aN _ 224 239 _ (.inr om)) ?_;go_wp2_with fail;refine j5 (aJ _ 240 244 _ om om) ?_;go_wp2_with fail;clear e0
  go_loop[8,9] (fun r i=> ∃m:Nat,m<=3/\i=I J ((m:Int)+1)/\r=I J (gA s p ((c:Int)%8) m)/\ ∀j,j<m->128<=bt s (p+(j+1))/\bt s (p+(j+1))<=191) (fun _ i=>5-(intOf i).toNat)
  case atStart=>exact ⟨0,om,rfl,rfl,fun j h=>by omega⟩
  obtain ⟨m,hm,rfl,rfl,hall⟩:=hrel;have HA:Hid (∀j,j<m->128<=bt s (p+(j+1))/\bt s (p+(j+1))<=191):=hall;clear hall;have hab:=uV s p ((c:Int)%8) om om m om
  by_cases hlt:m<3
  .have hq:p+(m+1)<s.size:=om
   obtain ⟨d,hd⟩: ∃d:Nat,s[p+(m+1)].toNat=d:=⟨_,rfl⟩;have hd255:d<=255:=by have:=s[p+(m+1)].toNat_lt;omega
   have HD:Hid (bt s (p+(m+1))=d):=by show _=_;rw[tG s _ hq,hd]
   have HN:Hid (gA s p ((c:Int)%8) (m+1)=gA s p ((c:Int)%8) m*64+(d:Int)%64):=by show _=_;rw[gA,HD.out]
   generalize gA s p ((c:Int)%8) m=a at hab HN⊢;obtain ⟨ha0,ha1⟩:=hab;have e1:bits .and .i64 (d:Int) 63=(d:Int)%64:=xW _ om om;have e2:bits .or .i64 (a*64) ((d:Int)%64)=a*64+(d:Int)%64:=hG 6 _ _ om om om om om om
   by_cases hg:128<=d/\d<=191
   .obtain ⟨hg1,hg2⟩:=hg
    go_wp2_with fail;refine j5 (aJ _ 128 191 _ om om) ?_;go_wp2_with fail;go_round
    case rel=>
     refine ⟨m+1,om,gn,by rw[HN.out],fun j hj=> ?_⟩
     by_cases e:j=m
     .subst e;rw[HD.out];exact ⟨hg1,hg2⟩
     exact HA.out j om
    case measure=>exact j1
   have HG:Hid (((d:Int)<128)∨(191:Int)<(d:Int)):=by show _∨_;omega
   have hR:=IF s p (by rw[HBT.out];omega) (by
    intro hh
    have:=HD.out
    have hg':=hg
    rcases (show m=0∨m=1∨m=2 by omega)with rfl|rfl|rfl
    all_goals (simp only[zg,zk]at this;omega))
   have HR:Hid (bL s p=(0,0)):=hR;clear hg hR;go_wp2_with fail;refine j5 (aN _ 128 191 _ HG.out) ?_;go_wp2_with fail;go_ret2;exact ⟨by rw[HR.out];rfl,zc _ _⟩
  have hme:m=3:=om;subst hme;clear hm hlt;have hr:gA s p ((c:Int)%8) 3=(bt s p:Int)%8*262144+(bt s (p+1):Int)%64*4096+(bt s (p+2):Int)%64*64+(bt s (p+3):Int)%64:=by
   rw[HBT.out];simp only[gA,zg,zk];omega
  have hR:=rune4 s p (gA s p ((c:Int)%8) 3) (by rw[HBT.out];omega) ⟨om,(HA.out 0 om).1,(HA.out 0 om).2,om,(HA.out 1 om).1,(HA.out 1 om).2,om,(HA.out 2 om).1,(HA.out 2 om).2⟩ hr;have hhi:gA s p ((c:Int)%8) 3<=2097151:=by rw[hr,HBT.out];omega
  generalize gA s p ((c:Int)%8) 3=r at hR hab hhi⊢;obtain ⟨ha0,ha1⟩:=hab;clear hr
  by_cases hl:r<65536
  .rw[if_pos (.inl hl)]at hR
   have HR:Hid (bL s p=(0,0)):=hR;clear hR;go_wp2_with fail;go_ret2;exact ⟨by rw[HR.out];rfl,(zc _ _).alloc (zd _) _⟩
  by_cases hg: ¬r<=1114111
  .rw[if_pos (.inr hg)]at hR
   have HR:Hid (bL s p=(0,0)):=hR;have HG:Hid (¬dH r):=by show ¬_;unfold dH;omega
   clear hR hg;go_wp2_with fail;refine j5 (lL r _ HG.out) ?_;go_wp2_with fail;go_ret2;exact ⟨by rw[HR.out];rfl,(zc _ _).alloc (zd _) _⟩
  rw[if_neg om]at hR;have HR:Hid (bL s p=(r,4)):=hR;have HG:Hid (dH r):=by show dH r;unfold dH;omega
  clear hR hg;go_wp2_with fail;refine j5 (dR r _ HG.out) ?_;go_wp2_with fail;go_ret2;exact ⟨by rw[HR.out];rfl,(zc _ _).alloc (zd _) _⟩
 have hR:=IF s p (by rw[HBT.out];omega) om;have HR:Hid (bL s p=(0,0)):=hR;clear hR;go_enter func225,ntmps225;go_wp2_with fail;refine j5 (aN _ 194 223 _ (.inr om)) ?_;go_wp2_with fail;refine j5 (aN _ 224 239 _ (.inr om)) ?_;go_wp2_with fail;refine j5 (aJ _ 240 244 _ om om) ?_;go_wp2_with fail;go_ret2;exact ⟨by rw[HR.out];rfl,zc _ _⟩
theorem RW(s:ByteArray)(p c:Nat)(w:World)(hp:p<s.size)(_hs:s.size<=1099511627776)(hc:s[p].toNat=c)(hb:c<128):Calls prog 225 #[L s,I J (p:Int)] w fun e w'=>e=Y (H #[I J (bL s p).1,I J (bL s p).2])/\Below w.heap.size w w':=by
 have hR:=rune1 s p (by rw[tG s p hp,hc];omega);rw[tG s p hp,hc]at hR;have HR:Hid (bL s p=((c:Int),1)):=hR;clear hR;go_enter func225,ntmps225;go_wp2_with fail;go_ret2;exact ⟨by rw[HR.out];rfl,zc _ _⟩
theorem RX(s:ByteArray)(p c:Nat)(w:World)(hp:p<s.size)(_hs:s.size<=1099511627776)(hc:s[p].toNat=c)(hb:128<=c)(hb2:c<194∨244<c):Calls prog 225 #[L s,I J (p:Int)] w fun e w'=>e=Y (H #[I J (bL s p).1,I J (bL s p).2])/\Below w.heap.size w w':=by
 have hR:=rune0 s p (by rw[tG s p hp,hc];omega) (by rw[tG s p hp,hc];omega);have HR:Hid (bL s p=(0,0)):=hR;have h255:c<=255:=by have:=s[p].toNat_lt;omega
 have HB:Hid (c<194∨244<c):=hb2;clear hR hb2;go_enter func225,ntmps225;go_wp2_with fail;refine j5 (aN _ 194 223 _ (by have:=HB.out;omega)) ?_;go_wp2_with fail;refine j5 (aN _ 224 239 _ (by have:=HB.out;omega)) ?_;go_wp2_with fail;refine j5 (aN _ 240 244 _ (by have:=HB.out;omega)) ?_;go_wp2_with fail;go_ret2;exact ⟨by rw[HR.out];rfl,zc _ _⟩
theorem ET(s:ByteArray)(p:Nat)(w:World)(hp:p<s.size)(hs:s.size<=1099511627776):Calls prog 225 #[L s,I J (p:Int)] w fun e w'=>e=Y (H #[I J (bL s p).1,I J (bL s p).2])/\Below w.heap.size w w':=by
 by_cases h1:s[p].toNat<128
 .exact RW s p _ w hp hs rfl h1
 by_cases h2:194<=s[p].toNat/\s[p].toNat<=223
 .exact RS s p _ w hp hs rfl h2.1 h2.2
 by_cases h3:224<=s[p].toNat/\s[p].toNat<=239
 .exact RU s p _ w hp hs rfl h3.1 h3.2
 by_cases h4:240<=s[p].toNat/\s[p].toNat<=244
 .exact RV s p _ w hp hs rfl h4.1 h4.2
 exact RX s p _ w hp hs rfl om om
theorem YO(x:Int): ∀u∈ #[Value.int .i64 x].toList,u.oneCell'=true:=by
 intro u hu;simp at hu;subst hu;rfl
def pQ(s:ByteArray)(w:World)(e:Ending)(w':World):Prop:=
 ((cF s).1=s.size/\ ∃v,e=Y (H #[v,G true])/\w'.ownsRow w.heap.size 3 1 v (cF s).2.length (aL (cF s).2)/\Below w.heap.size w w')∨
 ((cF s).1≠s.size/\ ∃v,e=Y (H #[v,G false])/\w'.ownsRow w.heap.size 3 1 v 0 (aL [])/\Below w.heap.size w w')
theorem EU(s:ByteArray)(k:Nat)(h1:(stR s k).1<s.size)(h2:qG s (stR s k).1){w1:World}{B:Nat}{v:Value}{e:TypeId}{x:Int}(hx:x=((Utf8.decode s (stR s k).1).1:Int))
  (hown:w1.ownsRow B e 1 v ((stR s k).2.length+1) (aL (stR s k).2++[I J x])):
  w1.ownsRow B e 1 v (stR s (k+1)).2.length (aL (stR s (k+1)).2):=by
 subst hx;rw[vT s k h1 h2];simp only;rw[kU,List.length_append];exact hown
theorem xC{w:World}{B:Nat}{e:TypeId}{size:Nat}{v:Value}{n:Nat}{xs:List Value}{K:Nat}{s:ByteArray}{p:Nat}(h:w.ownsRow B e size v n xs)(hk:w.heap[K]? =some (.stringIter s p)):some K≠v.ownBlock:=by
 intro hx
 rcases h.2 with ⟨rfl,_⟩|⟨g,cap,cur,rfl,_,hg,_⟩
 .simp[Value.ownBlock]at hx
 simp[Value.ownBlock]at hx;subst hx;rw[hk]at hg;simp at hg
theorem VO{w:World}{B:Nat}{e:TypeId}{size:Nat}{v:Value}{n:Nat}{xs:List Value}{K:Nat}{s:ByteArray}{p:Nat}(h:w.ownsRow B e size v n xs)(hk:w.heap[K]? =some (.stringIter s p))(p':Nat):(w.iterAt K s p').ownsRow B e size v n xs:=by
 have hne:=xC h hk;refine ⟨h.1,?_⟩
 rcases h.2 with hn|⟨g,cap,cur,rfl,hb,hg,rest⟩
 .exact .inl hn
 refine .inr ⟨g,cap,cur,rfl,hb,?_,rest⟩;have hgk:g≠K:=by
  intro e;subst e;simp[Value.ownBlock]at hne
 rw[Lib.iterAt_other w K g s p' hgk];exact hg
theorem F6(s:ByteArray)(w:World)(hs:s.size<=1048576):Calls prog 188 #[L s] w fun e w'=>pQ s w e w':=by
 go_enter func188,ntmps188;go_wp2
 go_loopw[4,5] (fun v i wr=> ∃k:Nat,i=I J ((stR s k).1:Int)/\wr.ownsRow w.heap.size 3 1 v (stR s k).2.length (aL (stR s k).2)/\Below w.heap.size w wr)
  (fun _ i _=>s.size-(intOf i).toNat)
 case atStart=>exact ⟨0,rfl,ze w #[] 0 (zd _) de rfl,(zc _ _).alloc (zd _) _⟩
 obtain ⟨k,rfl,hown,hbel⟩:=hrel;have hsz:=hbel.size;have hl:=OO s k;have hle:=LL s k;have HS1:Hid (∀(h1:(stR s k).1<s.size) (h2:qG s (stR s k).1),(stR s (k+1)).1=(stR s k).1+(Utf8.decode s (stR s k).1).2):=fun h1 h2=>by rw[vT s k h1 h2]
 have HST:Hid (¬((stR s k).1<s.size/\qG s (stR s k).1)->stR s k=cF s):=fun h=>LK s k h
 have HSP:Hid (∀(h1:(stR s k).1<s.size) (h2:qG s (stR s k).1) (w1:World) (v:Value) (x:Int) (hx:x=((Utf8.decode s (stR s k).1).1:Int)),
  w1.ownsRow w.heap.size 3 1 v ((stR s k).2.length+1) (aL (stR s k).2++[I J x])->w1.ownsRow w.heap.size 3 1 v (stR s (k+1)).2.length (aL (stR s (k+1)).2)):=
  fun h1 h2 w1 v x hx h=>EU s k h1 h2 hx h
 have HP:Hid ((stR s k).1=(stR s k).1):=rfl
 by_cases hlt:(stR s k).1<s.size
 .have hw:=Lib.decode_width_pos s (stR s k).1 hlt
  by_cases hok:qG s (stR s k).1
  .have hr:bL s (stR s k).1=(((Utf8.decode s (stR s k).1).1:Int),((Utf8.decode s (stR s k).1).2:Int)):=by unfold bL;rw[if_pos hok]
   have hw4:(stR s k).1+(Utf8.decode s (stR s k).1).2<=s.size:=by rw[<-HS1.out hlt hok];exact LL s (k+1)
   have HOK:Hid (qG s (stR s k).1):=hok;have cr:=ET s (stR s k).1;rw[hr]at cr;have CR:Hid (∀(W:World) (_:(stR s k).1<s.size) (_:s.size<=1099511627776),CB 225 #[L s,I J ((stR s k).1:Int)] W (H #[I J ((Utf8.decode s (stR s k).1).1:Int),I J ((Utf8.decode s (stR s k).1).2:Int)])):=cr;clear hok hr cr HST;have H1:Hid ((stR s (k+1)).1=(stR s k).1+(Utf8.decode s (stR s k).1).2):=HS1.out hlt HOK.out;have H2:Hid (∀(w1:World) (v:Value),w1.ownsRow w.heap.size 3 1 v ((stR s k).2.length+1) (aL (stR s k).2++[I J ((Utf8.decode s (stR s k).1).1:Int)])->w1.ownsRow w.heap.size 3 1 v (stR s (k+1)).2.length (aL (stR s (k+1)).2)):=
    fun w1 v h=>HSP.out hlt HOK.out w1 v _ rfl h
   clear HS1 HSP HP;generalize (Utf8.decode s (stR s k).1).1=R at*;generalize (Utf8.decode s (stR s k).1).2=W at*;generalize hp:(stR s k).1=p at*;generalize (stR s k).2=l at*;have HPP:Hid ((stR s k).1=p):=hp;clear hp;have hne:((W:Int)==0)=false:=by simp;omega
   go_wp2_with fail;refine (CR.out _ hlt om).mono ?_;rintro e wc ⟨rfl,hbc⟩;have hown2:=aH hown hbc;have hsc:=hbc.size;go_wp2_with (at_builtin;refine aB _ rfl _ _ 95 rfl w.heap.size 3 (I J 0) 8 underlying95 infoInt rfl _ _ _ rfl hown2 #[I J (R:Int)] 1 rfl rfl (YO _) om (by unfold maxLen;omega) om ?_);intro v' w1 hown' hb1;have R1:=H2.out w1 v' hown';have B1:Below w.heap.size w w1:=(hbel.trans (hbc.mono hsz)).trans hb1;clear hown' hb1 hown hbel hown2 hbc;go_wp2;go_roundw
   case rel=>exact ⟨k+1,by rw[H1.out];go_num,R1,B1⟩
   case measure=>exact j1
  have hr:bL s (stR s k).1=(0,0):=by unfold bL;rw[if_neg hok]
  have HF:Hid (stR s k=cF s):=HST.out (fun h=>hok h.2);have cr:=ET s (stR s k).1;rw[hr]at cr;have CR:Hid (∀(W:World) (_:(stR s k).1<s.size) (_:s.size<=1099511627776),CB 225 #[L s,I J ((stR s k).1:Int)] W (H #[I J 0,I J 0])):=cr;clear hok hr cr HST HS1 HSP HP hw;have HN:Hid ((cF s).1≠s.size):=by show _≠_;rw[<-HF.out];omega
  generalize (stR s k).1=p at*;clear HF;go_wp2_with fail;refine (CR.out _ hlt om).mono ?_;rintro e wc ⟨rfl,hbc⟩;have hsc:=hbc.size;have B1:Below w.heap.size w (wc.alloc (Z #[] 3)):=(hbel.trans (hbc.mono hsz)).alloc om _;have O1:(wc.alloc (Z #[] 3)).ownsRow w.heap.size 3 1 (.slice (some ⟨wc.heap.size,0,none⟩) 0 0) 0 (aL []):=ze wc #[] 0 om de rfl;go_wp2;go_ret2;exact .inr ⟨HN.out,_,rfl,O1,B1⟩
 have HF:Hid (stR s k=cF s):=HST.out (fun h=>hlt h.1);have HN:Hid ((cF s).1=s.size):=by show _=_;rw[<-HF.out];omega
 have O1:wr.ownsRow w.heap.size 3 1 u4 (cF s).2.length (aL (cF s).2):=by rw[<-HF.out];exact hown
 clear HF HST HS1 HSP HP hown;generalize (stR s k).1=p at*;go_wp2;go_ret2;exact .inl ⟨HN.out,_,rfl,O1,hbel⟩
theorem KB(s:ByteArray)(w:World)(hs:s.size<=1048576)(hT:Lib.Utf8Tabs 12 13 w):Calls prog 291 #[L s] w fun e w'=>pQ s w e w':=by
 obtain ⟨i0,hi,hz0,hz1,hz2⟩:=info_parts infoInt;have cv:=Any.utf8_ValidString lays196 s w om hT;have CV:Hid (CB 296 #[L s] w (G (Lib.validD s.data.toList))):=cv;clear cv hT
 by_cases hv:Lib.validD s.data.toList=true
 .have HV:Hid (Lib.validD s.data.toList=true):=hv
  have HN:Hid ((cF s).1=s.size):=(yB s).1 hv;have CV2:Hid (CB 296 #[L s] w (G true)):=by have h:=CV.out;rw[hv]at h;exact h
  have hrc:=Lib.runeCount_le s;clear hv CV;go_enter func291,ntmps291;go_wp2_with fail;refine CV2.out.mono ?_;rintro e wa ⟨rfl,ba⟩;go_wp2_with fail;refine (utf8_RuneCountInString s _ om).mono ?_;rintro e wb ⟨rfl,pos,hwb⟩;have bb:Below wa.heap.size wa wb:=by rw[hwb];exact (zc _ _).alloc (zd _) _
  have za:=ba.size;have Bb:Below w.heap.size w wb:=ba.trans (bb.mono za);clear hwb bb ba pos;have zb:=Bb.size;generalize Lib.runeCount s=rc at*;go_wp2_with (at_make;refine wpList_make_own _ rfl _ _ 95 rfl w.heap.size 3 i0 (I J 0) 1 underlying95 hi hz0 hz1 _ _ _ rc rfl rfl om (by rw[hz2];omega) (by unfold maxLen;omega) zb ?_);intro wm hmo hgm;have Bm:Below w.heap.size w wm:=Bb.grown hgm zb (fun k hk=>by cases hk);have zm:=Bm.size;have hit:(wm.iter s 0).heap[wm.heap.size]? =some (.stringIter s 0):=World.iter_heap wm s 0;have Bi:Below w.heap.size w (wm.iter s 0):=Bm.alloc zm _;have oi:(wm.iter s 0).ownsRow w.heap.size 3 1 (.slice (some ⟨wb.heap.size,0,none⟩) 0 rc) 0 []:=hmo.alloc _;clear hgm hmo Bb Bm;have HK:Hid (w.heap.size<=wm.heap.size):=zm;go_wp2_with fail;generalize wm.heap.size=K at hit HK⊢
  go_loopw[4] (fun v wr=> ∃k:Nat,wr.heap[K]? =some (.stringIter s (stR s k).1)/\wr.ownsRow w.heap.size 3 1 v (stR s k).2.length (aL (stR s k).2)/\Below w.heap.size w wr)
   (fun _ wr=>s.size-wr.iterPos K)
  case atStart=>exact ⟨0,hit,oi,Bi⟩
  obtain ⟨k,hk,hown,hbel⟩:=hrel;clear hit oi Bi;have hsz:=hbel.size;have hl:=OO s k;have hle:=LL s k
  by_cases hlt:(stR s k).1<s.size
  .have hok:=N2 s HV.out k hlt
   have H1:Hid ((stR s (k+1)).1=(stR s k).1+(Utf8.decode s (stR s k).1).2):=by show _=_;rw[vT s k hlt hok]
   have H2:Hid (∀(w1:World) (v:Value),w1.ownsRow w.heap.size 3 1 v ((stR s k).2.length+1) (aL (stR s k).2++[I J ((Utf8.decode s (stR s k).1).1:Int)])->w1.ownsRow w.heap.size 3 1 v (stR s (k+1)).2.length (aL (stR s (k+1)).2)):=
    fun w1 v h=>EU s k hlt hok rfl h
   have hw:=Lib.decode_width_pos s (stR s k).1 hlt;have hr31:=decode_le s (stR s k).1;have hnx:=fun ty=>Lib.run_next_any_at (P:=prog) wr K s (stR s k).1 ty hk hlt
   have hk2:=Lib.iterAt_heap wr K s (stR s k).1 ((stR s k).1+(Utf8.decode s (stR s k).1).2) hk;have hown2:=VO hown hk ((stR s k).1+(Utf8.decode s (stR s k).1).2);have hneK:some K≠u4.ownBlock:=xC hown hk;have hbel2:=Lib.below_iterAt hbel HK.out s ((stR s k).1+(Utf8.decode s (stR s k).1).2);have hKlt:K<wr.heap.size:=(Array.getElem?_eq_some_iff.1 hk).1;have HI:Hid (wr.iterPos K=(stR s k).1):=by show _=_;unfold World.iterPos;rw[hk]
   generalize (Utf8.decode s (stR s k).1).1=R at*;generalize (Utf8.decode s (stR s k).1).2=W at*;have HNK:Hid (some K≠u4.ownBlock):=hneK;clear hok hneK hown hbel;generalize hp:(stR s k).1=p at*;generalize (stR s k).2=l at*;have HPP:Hid ((stR s k).1=p):=hp;clear hp;have zi:(wr.iterAt K s (p+W)).heap.size=wr.heap.size:=Lib.iterAt_size wr K s (p+W);have HZI:Hid ((wr.iterAt K s (p+W)).heap.size=wr.heap.size):=zi;have hz3:w.heap.size<=(wr.iterAt K s (p+W)).heap.size:=om;have hK3:K<(wr.iterAt K s (p+W)).heap.size:=om;clear zi hk;generalize wr.iterAt K s (p+W)=wi at*;go_wp2_with (at_builtin;refine mS _ rfl _ _ 95 rfl w.heap.size 3 (I J 0) 8 underlying95 infoInt rfl _ _ _ rfl hown2 #[I J (R:Int)] 1 rfl rfl (YO _) om (by unfold maxLen;omega) hz3 ?_);intro v' w1 hown' hb1 hkeep;have R1:=H2.out w1 v' hown';have B1:Below w.heap.size w w1:=hbel2.trans hb1;have K1:w1.heap[K]? =some (.stringIter s (p+W)):=(hkeep K hK3 HNK.out).trans hk2;have HI1:Hid (w1.iterPos K=p+W):=by show _=_;unfold World.iterPos;rw[K1]
   clear hown' hb1 hown2 hbel2 hkeep hk2;go_wp2;go_roundw
   case rel=>exact ⟨k+1,by rw[H1.out];exact K1,R1,B1⟩
   case measure=>
    have a:=HI.out;have b:=HI1.out;simp only[a,b];omega
  have HF:Hid (stR s k=cF s):=LK s k (fun h=>hlt h.1);have hnx:=fun ty=>Lib.run_next_end_at (P:=prog) wr K s (stR s k).1 ty hk hlt
  have O1:wr.ownsRow w.heap.size 3 1 u4 (cF s).2.length (aL (cF s).2):=by rw[<-HF.out];exact hown
  clear HF hown;go_wp2;go_ret2;exact .inl ⟨HN.out,_,rfl,O1,hbel⟩
 have HN:Hid ((cF s).1≠s.size):=fun h=>hv ((yB s).2 h)
 have CV2:Hid (CB 296 #[L s] w (G false)):=by
  have h:=CV.out;rw[Bool.not_eq_true]at hv;rw[hv]at h;exact h
 clear hv CV;go_enter func291,ntmps291;go_wp2_with fail;refine CV2.out.mono ?_;rintro e wa ⟨rfl,ba⟩;have za:=ba.size;have B1:Below w.heap.size w (wa.alloc (Z #[] 3)):=ba.alloc za _;have O1:(wa.alloc (Z #[] 3)).ownsRow w.heap.size 3 1 (.slice (some ⟨wa.heap.size,0,none⟩) 0 0) 0 (aL []):=ze wa #[] 0 za de rfl;go_wp2;go_ret2;exact .inr ⟨HN.out,_,rfl,O1,B1⟩
theorem RY(s:ByteArray)(h:600<(s.size:Int)):cL (sN s)=none:=by
 cases hd:cL (sN s)with
 |none=>rfl
 |some l=>
  obtain ⟨hok,he⟩:=(qJ _ _).1 hd
  have:=wA hok
  rw[he,bM]at this;omega
theorem VP(s:ByteArray)(w:World)(h:600<(s.size:Int)):Calls prog 230 #[L s] w fun e w'=>kA w w' none e/\Below w.heap.size w w':=by
 go_enter func230,ntmps230;go_wp2;go_ret2;exact ⟨bJ rfl (ze w #[] 0 (zd _) de rfl) rfl,(zc _ _).alloc (zd _) _⟩
theorem VQ(s:ByteArray)(w:World):Calls prog 230 #[L s] w fun e w'=>kA w w' (cL (sN s)) e/\Below w.heap.size w w':=by
 by_cases h:(s.size:Int)<=600
 .exact DO s w h
 rw[RY s om];exact VP s w om
theorem VR(s:ByteArray)(w:World):Calls prog 295 #[L s] w fun e w'=>kA w w' (cL (sN s)) e/\Below w.heap.size w w':=by
 by_cases h:(s.size:Int)<=600
 .exact ES s w h
 rw[RY s om];exact uU s w om
theorem uX{zl:List Int}(h:vS zl):zl=(zl.map zf).map (fun (c:Nat)=>(c:Int)):=by
 rw[List.map_map];refine (List.map_id zl).symm.trans (List.map_congr_left fun z hz=> ?_)
 have:=(h z hz).1
 show z=((z.toNat:Nat):Int);omega
theorem pR{zl:List Int}(h:vS zl)(h2:zl.length<=60):dY (zl.map zf)=true:=by
 rw[AS,<-uX h];exact ⟨h2,h⟩
theorem Z1{zl:List Int}(h2: ¬zl.length<=60):dY (zl.map zf)=false:=by
 unfold dY;rw[zj,decide_eq_false h2];rfl
def nM(zl:List Int):Value:=if zl.length<=60 then H #[L ⟨(b8 (bC (zl.map zf))).toArray⟩,G true]else H #[L ⟨#[]⟩,G false]
theorem xD(zl:List Int)(v:Value)(B:Nat)(w:World)(hk:vS zl)(hl:zl.length<=1048576)(h:w.ownsRow B 3 1 v zl.length (aL zl)):Calls prog 189 #[v] w fun e w'=>e=Y (nM zl)/\Below w.heap.size w w':=by
 by_cases h2:zl.length<=60
 .have e:nM zl=H #[L ⟨(b8 (bC (zl.map zf))).toArray⟩,G true]:=if_pos h2
  rw[e];refine VM (zl.map zf) v B w (pR hk h2) ?_;unfold icN;rw[<-uX hk,zj];exact h
 have e:nM zl=H #[L ⟨#[]⟩,G false]:=if_neg h2;rw[e]
 rcases aQ h with ⟨h0,_⟩|⟨_,g,cap,rfl⟩
 .omega
 exact jD zl zl.length g cap B w (fun hh=>h2 hh.1) rfl hl h
theorem xE(zl:List Int)(v:Value)(B:Nat)(w:World)(hk:vS zl)(hl:zl.length<=1048576)(h:w.ownsRow B 3 1 v zl.length (aL zl)):Calls prog 292 #[v] w fun e w'=>e=Y (nM zl)/\Below w.heap.size w w':=by
 have hr:w.ownsRow B 3 1 v (zl.map zf).length (icN (zl.map zf)):=by
  unfold icN;rw[<-uX hk,zj];exact h
 have hc:=ER (zl.map zf) v B w (by rw[zj];exact hl) hr
 by_cases h2:zl.length<=60
 .have e:nM zl=H #[L ⟨(b8 (bC (zl.map zf))).toArray⟩,G true]:=if_pos h2
  rw[e];rw[pR hk h2,if_pos rfl]at hc;exact hc
 have e:nM zl=H #[L ⟨#[]⟩,G false]:=if_neg h2;rw[e];rw[Z1 h2,if_neg de]at hc;exact hc
theorem sZ(s:ByteArray)(h:(cF s).1=s.size):vS (cF s).2:=(N4 s h).1
theorem MX(s:ByteArray):(cF s).2.length<=s.size:=Cv s s.size
theorem Eg{l:List UInt8}(h:oT l=true):Lib.trimPrefix l xn=l.drop 4:=by
 have h':Lib.hasPrefix l xn=true:=h;unfold Lib.trimPrefix;rw[if_pos h'];rfl
theorem Eh{l:List UInt8}(h:oT l=false):Lib.trimPrefix l xn=l:=by
 have h':Lib.hasPrefix l xn=false:=h;unfold Lib.trimPrefix;rw[if_neg (by rw[h'];decide)]
def gK(l:List UInt8):Option (List Nat):=if oT l=true then cL (GE (l.drop 4))else none
theorem EV(s:ByteArray)(w:World):Calls prog 290 #[L s] w fun e w'=>e=Y (G (!(oT s.data.toList)||(gK s.data.toList).isSome))/\Below w.heap.size w w':=by
 have CP:=strings_CutPrefix s ⟨#[120,110,45,45]⟩ w;have CP':Hid (Calls prog 294 #[L s,L ⟨#[120,110,45,45]⟩] w fun e w'=>e=Y (H #[L ⟨(Lib.trimPrefix s.data.toList xn).toArray⟩,G (oT s.data.toList)])/\w'=w):=CP;clear CP
 cases hx:oT s.data.toList with
 |false=>
  rw[hx,Eh hx]at CP';clear hx;go_enter func290,ntmps290;go_wp2_with fail;refine CP'.out.mono ?_;rintro e w' ⟨rfl,rfl⟩;go_wp2_with fail;go_ret;exact ⟨rfl,zc _ _⟩
 |true=>
  rw[hx,Eg hx]at CP';have CD:Hid (∀W,Calls prog 295 #[L ⟨(s.data.toList.drop 4).toArray⟩] W fun e w'=>kA W w' (gK s.data.toList) e/\Below W.heap.size W w'):=fun W=>by
   have h:=VR ⟨(s.data.toList.drop 4).toArray⟩ W;have e:cL (sN ⟨(s.data.toList.drop 4).toArray⟩)=gK s.data.toList:=by
    unfold gK;rw[if_pos hx];rfl
   rw[e]at h;exact h
  clear hx;go_enter func290,ntmps290;go_wp2_with fail;refine CP'.out.mono ?_;rintro e w' ⟨rfl,rfl⟩;go_wp2_with fail;refine (CD.out _).mono ?_;rintro e wa ⟨hd,ba⟩
  cases hr:gK s.data.toList with
  |some l=>
   rw[hr]at hd;obtain ⟨v,rfl,_⟩:=hd;have HR:Hid (gK s.data.toList=some l):=hr;clear hr CD CP';go_wp2_with fail;go_ret;exact ⟨aG (by rw[HR.out];rfl),ba⟩
  |none=>
   rw[hr]at hd;obtain ⟨v,rfl,_⟩:=hd;have HR:Hid (gK s.data.toList=none):=hr;clear hr CD CP';go_wp2_with fail;go_ret;exact ⟨aG (by rw[HR.out];rfl),ba⟩
theorem xF(s:ByteArray)(w:World)(hs:s.size<=1048576)(hT:Lib.Utf8Tabs 12 13 w)(h1:(cF s).1=s.size)(h2:(cF s).2.length<=60):Calls prog 288 #[L s] w fun e w'=>e=Y (H #[L ⟨(xn++b8 (bC ((cF s).2.map zf))).toArray⟩,G true])/\Below w.heap.size w w':=by
 have CR:Hid (Calls prog 291 #[L s] w fun e w'=>pQ s w e w'):=KB s w hs hT;have HA:Hid (vS (cF s).2):=sZ s h1;have HL:Hid ((cF s).2.length<=1048576):=by have:=MX s;show _<=_;omega
 have HE:Hid (nM (cF s).2=H #[L ⟨(b8 (bC ((cF s).2.map zf))).toArray⟩,G true]):=if_pos h2;have HX:Hid ((⟨#[120,110,45,45]⟩:ByteArray)++⟨(b8 (bC ((cF s).2.map zf))).toArray⟩=⟨(xn++b8 (bC ((cF s).2.map zf))).toArray⟩):=by
  show _=_;apply ByteArray.ext;rw[ByteArray.data_append];apply Array.toList_inj.1;simp[xn]
 have hz:(⟨(b8 (bC ((cF s).2.map zf))).toArray⟩:ByteArray).size<=600:=by
  show (b8 (bC ((cF s).2.map zf))).toArray.size<=600;rw[List.size_toArray,sT];exact wA (pR HA.out h2)
 obtain ⟨T,hTT⟩: ∃T:ByteArray,⟨(b8 (bC ((cF s).2.map zf))).toArray⟩=T:=⟨_,rfl⟩;rw[hTT]at HE HX hz;clear hT h2 hTT;go_enter func288,ntmps288;go_wp2_with fail;refine CR.out.mono ?_;rintro e wa (⟨_,va,rfl,oa,ba⟩|⟨hn,_⟩)
 .go_wp2_with fail
  refine j6 (xE _ _ _ _ HA.out HL.out oa) fun wb bb=>?_
  rw[HE.out];have B:=ba.trans (bb.mono ba.size);clear oa ba bb CR;go_wp2_with fail;go_ret2;refine ⟨?_,B⟩;rw[<-HX.out];rfl
 exact absurd h1 hn
theorem yV(s:ByteArray)(w:World)(hs:s.size<=1048576)(hT:Lib.Utf8Tabs 12 13 w)(h: ¬((cF s).1=s.size/\(cF s).2.length<=60)):Calls prog 288 #[L s] w fun e w'=>(∃t:ByteArray,e=Y (H #[L t,G false]))/\Below w.heap.size w w':=by
 have CR:Hid (Calls prog 291 #[L s] w fun e w'=>pQ s w e w'):=KB s w hs hT;have HA:Hid ((cF s).1=s.size->vS (cF s).2):=fun h1=>sZ s h1
 have HL:Hid ((cF s).2.length<=1048576):=by have:=MX s;show _<=_;omega
 have HE:Hid ((cF s).1=s.size->nM (cF s).2=H #[L ⟨#[]⟩,G false]):=fun h1=>if_neg (fun h2=>h ⟨h1,h2⟩)
 clear hT h;go_enter func288,ntmps288;go_wp2_with fail;refine CR.out.mono ?_;rintro e wa (⟨h1,va,rfl,oa,ba⟩|⟨_,va,rfl,_,ba⟩)
 .go_wp2_with fail
  refine j6 (xE _ _ _ _ (HA.out h1) HL.out oa) fun wb bb=>?_
  rw[HE.out h1];have B:=ba.trans (bb.mono ba.size);clear oa ba bb CR;go_wp2_with fail;go_ret2;exact ⟨⟨_,rfl⟩,B⟩
 clear CR;go_wp2_with fail;go_ret2;exact ⟨⟨_,rfl⟩,ba⟩
