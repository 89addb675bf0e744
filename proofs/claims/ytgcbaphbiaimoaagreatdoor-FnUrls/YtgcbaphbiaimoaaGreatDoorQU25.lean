/- DecImpl, RuneAtWalk, RunesWalk, AscBase. -/
import Derived.Test.YtgcbaphbiaimoaaGreatDoorQU24
import Derived.Lib.OthersKept
set_option maxHeartbeats 4000000
set_option maxRecDepth 100000
namespace Go.Proofs.YtgcbaphbiaimoaaGreatDoor
open Go.RowKit Go.Shelf
theorem zfXz(l:List Nat)(v:Value)(B:Nat)(w:World)(hl:l.length≤1048576)(hown:w.ownsRow B 3 1 v l.length (icN l)):
  Calls Tryz.prog 292 #[v] w fun e w'=>e=.returned (.tuple #[.string ⟨(b8 (if yGz l=true then zzz l else [])).toArray⟩,.bool (yGz l)])∧Below w.heap.size w w':=by
 rcases zrz hown with ⟨h0,_,ao,cap,rfl⟩|⟨_,g,cap,rfl⟩
 ·have hl0:l=[]:=List.eq_nil_of_length_eq_zero h0
  subst hl0
  refine (zcyz ao cap w).mono ?_
  rintro e w' ⟨rfl,hb⟩
  exact ⟨rfl,hb⟩
 by_cases hok:yGz l=true
 ·rw[if_pos hok,hok]
  exact zcxz l l.length g cap B w hok rfl hown
 rw[if_neg hok]
 have hf:yGz l=false:=by simpa using hok
 rw[hf]
 exact zdAz (l.map fun (c:Nat)=>(c:Int)) l.length g cap B w (fun h=>hok (zeJz.2 h)) (by simp) hl hown
theorem zmTz{s l:List Nat}(h:yaz s=some l):v0z s=some l:=by
 unfold yaz at h
 split at h
 ·next l' hr=>
  split at h
  ·cases h;exact hr
  cases h
 cases h
theorem znWz:ydz []=none:=rfl
theorem zqdz{s l:List Nat}(h:ydz s=some ([],s.drop 1))(hd:yaz s=some l):False:=by
 obtain ⟨_,he⟩:=(zaVz s l).1 hd
 obtain ⟨p1,p2⟩:=zgSz l
 rw[he]at p1 p2
 have h1:zb1z s=[]:=by unfold zb1z;rw[h]
 have h2:zc2z s=s.drop 1:=by unfold zc2z;rw[h]
 rw[h1]at p1
 have h3:s=(encV l).map zIz:=by
  rw[←he]
  unfold zzz
  rw[←p1]
  rfl
 rw[←h3,h2]at p2
 have h4:=congrArg List.length p2
 rw[List.length_drop]at h4
 have h5:s=[]:=List.eq_nil_of_length_eq_zero (by omega)
 rw[h5,znWz]at h
 cases h
theorem zfYz(s:ByteArray)(w:World)(hs600:(s.size:Int)≤600):
  Calls Tryz.prog 295 #[.string s] w fun e w'=>vCz w w' (yaz (sN s)) e∧Below w.heap.size w w':=by
 have hng: ¬600<(s.size:Int):=by omega
 go_enter Tryz.func295,Tryz.ntmps295
 go_wp2_with fail
 refine (zqcz s w hs600).mono ?_
 rintro e w2 ⟨hans,hb⟩
 obtain ⟨R,hR,HD⟩: ∃R:Option (List Nat),xzz w w2 R e∧ ∀l,yaz (sN s)=some l→R=some l:=by
  rcases hans with ⟨k,hk,hks,hsp,hr⟩|⟨hsp|hsp,hr⟩
  ·refine ⟨_,hr,fun l hl=> ?_⟩
   have h1:=zmTz hl
   unfold v0z zb1z zc2z at h1
   rw[hsp,zNz]at h1
   simp only at h1
   rw[List.length_take,zNz,Nat.min_eq_left (by omega)]at h1
   exact ziJz k _ _ _ _ _ _ l (by decide) h1
  ·refine ⟨_,hr,fun l hl=> ?_⟩
   have h1:=zmTz hl
   unfold v0z zb1z zc2z at h1
   rw[hsp,zNz]at h1
   exact ziJz 0 _ _ _ _ _ _ l (by decide) h1
  exact ⟨_,hr,fun l hl=>(zqdz hsp hl).elim⟩
 have HDD:Hid (∀l,yaz (sN s)=some l→R=some l):=HD
 have HB:Hid (Below w.heap.size w w2):=hb
 have hsz:=hb.size
 clear hans HD hb
 rcases hR with ⟨hno,rfl⟩|⟨l,v,hyes,hl6,rfl,hown⟩
 ·have HN:Hid (yaz (sN s)=none):=by
   show _=_
   cases hd:yaz (sN s)with
   |none=>rfl
   |some l=>have:=HDD.out l hd;rw[hno]at this;cases this
  have HZ:Hid ((w2.alloc (.cells #[] 3)).ownsRow w.heap.size 3 1 (.slice (some ⟨w2.heap.size,0,none⟩) 0 0) 0 []):=World.ownsRow_lit w2 #[] 0 hsz (by decide) rfl
  clear hno
  go_wp2_with fail
  go_ret2
  exact ⟨zKz HN.out HZ.out rfl,HB.out.alloc hsz _⟩
 have CE:Hid (CB 292 #[v] w2 (.tuple #[.string ⟨(b8 (if yGz l=true then zzz l else [])).toArray⟩,.bool (yGz l)])):=zfXz l v w.heap.size w2 (by omega) hown
 have HOW:Hid (w2.ownsRow w.heap.size 3 1 v l.length (icN l)):=hown
 have HAL:Hid (∀l',yaz (sN s)=some l'→l'=l):=fun l' h=>by
  have:=HDD.out l' h
  rw[hyes]at this
  injection this with this
  exact this.symm
 clear hyes HDD
 obtain ⟨ao,cp,hu⟩:=xQz hown
 subst hu
 clear hown
 by_cases hok:yGz l=true
 ·rw[if_pos hok,hok]at CE
  by_cases heq:zzz l=sN s
  ·have HY:Hid (yaz (sN s)=some l):=(zaVz _ _).2 ⟨hok,heq⟩
   have hst:=zkYz ((zg2z s (zzz l) (fun c hc=>by have:=jyz c hc;omega)).2 heq)
   generalize (⟨(b8 (zzz l)).toArray⟩:ByteArray)=t at CE hst
   clear hok heq
   go_wp2_with fail
   refine CE.out.mono ?_
   rintro e w3 ⟨rfl,hb3⟩
   have HO3:Hid (w3.ownsRow w.heap.size 3 1 (.slice ao l.length cp) l.length (icN l)):=zkz HOW.out hb3
   have HB3:Hid (Below w.heap.size w w3):=HB.out.trans (hb3.mono hsz)
   clear hb3
   go_wp2_with fail
   go_ret2
   exact ⟨v2z HY.out HO3.out rfl,HB3.out⟩
  have HN:Hid (yaz (sN s)=none):=by
   show _=_
   cases hd:yaz (sN s)with
   |none=>rfl
   |some l'=>
    have h1:=HAL.out l' hd
    rw[h1]at hd
    exact absurd ((zaVz _ _).1 hd).2 heq
  have hst:=zaPz (fun h=>heq ((zg2z s (zzz l) (fun c hc=>by have:=jyz c hc;omega)).1 h))
  generalize (⟨(b8 (zzz l)).toArray⟩:ByteArray)=t at CE hst
  clear hok heq
  go_wp2_with fail
  refine CE.out.mono ?_
  rintro e w3 ⟨rfl,hb3⟩
  have hsz3:w.heap.size≤w3.heap.size:=Nat.le_trans hsz hb3.size
  have HB3:Hid (Below w.heap.size w w3):=HB.out.trans (hb3.mono hsz)
  have HZ:Hid ((w3.alloc (.cells #[] 3)).ownsRow w.heap.size 3 1 (.slice (some ⟨w3.heap.size,0,none⟩) 0 0) 0 []):=World.ownsRow_lit w3 #[] 0 hsz3 (by decide) rfl
  clear hb3
  go_wp2_with fail
  go_ret2
  exact ⟨zKz HN.out HZ.out rfl,HB3.out.alloc hsz3 _⟩
 have HN:Hid (yaz (sN s)=none):=by
  show _=_
  cases hd:yaz (sN s)with
  |none=>rfl
  |some l'=>
   have h1:=HAL.out l' hd
   rw[h1]at hd
   exact absurd ((zaVz _ _).1 hd).1 hok
 rw[if_neg hok,show yGz l=false by simpa using hok]at CE
 generalize (⟨(b8 []).toArray⟩:ByteArray)=t at CE
 clear hok
 go_wp2_with fail
 refine CE.out.mono ?_
 rintro e w3 ⟨rfl,hb3⟩
 have hsz3:w.heap.size≤w3.heap.size:=Nat.le_trans hsz hb3.size
 have HB3:Hid (Below w.heap.size w w3):=HB.out.trans (hb3.mono hsz)
 have HZ:Hid ((w3.alloc (.cells #[] 3)).ownsRow w.heap.size 3 1 (.slice (some ⟨w3.heap.size,0,none⟩) 0 0) 0 []):=World.ownsRow_lit w3 #[] 0 hsz3 (by decide) rfl
 clear hb3
 go_wp2_with fail
 go_ret2
 exact ⟨zKz HN.out HZ.out rfl,HB3.out.alloc hsz3 _⟩
theorem zcAz(s:ByteArray)(w:World)(hs:600<(s.size:Int)):
  Calls Tryz.prog 295 #[.string s] w fun e w'=>vCz w w' none e∧Below w.heap.size w w':=by
 go_enter Tryz.func295,Tryz.ntmps295
 go_wp2
 go_ret2
 exact ⟨zKz rfl (World.ownsRow_lit w #[] 0 (Nat.le_refl _) (by decide) rfl) rfl,(Below.refl _ _).alloc (Nat.le_refl _) _⟩
end Go.Proofs.YtgcbaphbiaimoaaGreatDoor
namespace Go.Proofs.YtgcbaphbiaimoaaGreatDoor
open Go.RowKit
def xBz(s:ByteArray)(p:Nat)(r0:Int):Nat→Int
 |0=>r0
 |m+1=>xBz s p r0 m*64+(bt s (p+(m+1)):Int)%64
theorem zcBz(s:ByteArray)(p:Nat)(r0:Int)(h0:0≤r0)(h1:r0<32): ∀m,m≤3→0≤xBz s p r0 m∧xBz s p r0 m<8388608
 |0,_=>by simp only[xBz];omega
 |1,_=>by simp only[xBz];omega
 |2,_=>by simp only[xBz];omega
 |3,_=>by simp only[xBz];omega
theorem zkmz(s:ByteArray)(p c:Nat)(w:World)(hp:p<s.size)(hs:s.size≤1099511627776)(hc:s[p].toNat=c)(hb1:194≤c)(hb2:c≤223):
  Calls Tryz.prog 225 #[.string s,.int .i64 (p:Int)] w fun e w'=>e=.returned (.tuple #[.int .i64 (zMz s p).1,.int .i64 (zMz s p).2])∧Below w.heap.size w w':=by
 have e0:bits .and .i64 (c:Int) 31=(c:Int)%32:=zm7z _ (by omega) (by omega)
 have hbt:bt s p=c:=by rw[zbZz s p hp,hc]
 have HBT:Hid (bt s p=c):=hbt
 clear hbt
 by_cases hshort:p+2≤s.size
 ·have hsh: ¬((s.size:Int)<(p:Int)+2):=by omega
  go_enter Tryz.func225,Tryz.ntmps225
  go_wp2_with fail
  refine (zgz _ 194 223 _ (by omega) (by omega)).mono ?_
  rintro e w' ⟨rfl,rfl⟩
  go_wp2_with fail
  clear e0
  go_loop[8,9] (fun r i=> ∃m:Nat,m≤1∧i=.int .i64 ((m:Int)+1)∧r=.int .i64 (xBz s p ((c:Int)%32) m)∧ ∀j,j<m→128≤bt s (p+(j+1))∧bt s (p+(j+1))≤191) (fun _ i=>3-(intOf i).toNat)
  case atStart=>exact ⟨0,by omega,rfl,rfl,fun j h=>by omega⟩
  obtain ⟨m,hm,rfl,rfl,hall⟩:=hrel
  have HA:Hid (∀j,j<m→128≤bt s (p+(j+1))∧bt s (p+(j+1))≤191):=hall
  clear hall
  have hab:=zcBz s p ((c:Int)%32) (by omega) (by omega) m (by omega)
  by_cases hlt:m<1
  ·have hq:p+(m+1)<s.size:=by omega
   obtain ⟨d,hd⟩: ∃d:Nat,s[p+(m+1)].toNat=d:=⟨_,rfl⟩
   have hd255:d≤255:=by have:=s[p+(m+1)].toNat_lt;omega
   have HD:Hid (bt s (p+(m+1))=d):=by show _=_;rw[zbZz s _ hq,hd]
   have HN:Hid (xBz s p ((c:Int)%32) (m+1)=xBz s p ((c:Int)%32) m*64+(d:Int)%64):=by show _=_;rw[xBz,HD.out]
   generalize xBz s p ((c:Int)%32) m=a at hab HN⊢
   obtain ⟨ha0,ha1⟩:=hab
   have e1:bits .and .i64 (d:Int) 63=(d:Int)%64:=zdMz _ (by omega) (by omega)
   have e2:bits .or .i64 (a*64) ((d:Int)%64)=a*64+(d:Int)%64:=xZz 6 _ _ (by omega) (by omega) (by omega) (by omega) (by omega) (by omega)
   by_cases hg:128≤d∧d≤191
   ·obtain ⟨hg1,hg2⟩:=hg
    go_wp2_with fail
    refine (zgz _ 128 191 _ (by omega) (by omega)).mono ?_
    rintro e w' ⟨rfl,rfl⟩
    go_wp2_with fail
    go_round
    case rel=>
     refine ⟨m+1,by omega,by go_num,by rw[HN.out],fun j hj=> ?_⟩
     by_cases e:j=m
     ·subst e;rw[HD.out];exact ⟨hg1,hg2⟩
     exact HA.out j (by omega)
    case measure=>simp[intOf];omega
   have HG:Hid (((d:Int)<128)∨(191:Int)<(d:Int)):=by show _∨_;omega
   have hR:=zgPz s p (by rw[HBT.out];omega) (by
    intro hh
    have:=HD.out
    have hg':=hg
    obtain rfl:m=0:=by omega
    all_goals (simp only[Nat.zero_add]at this;omega))
   have HR:Hid (zMz s p=(0,0)):=hR
   clear hg hR
   go_wp2_with fail
   refine (zmz _ 128 191 _ HG.out).mono ?_
   rintro e w' ⟨rfl,rfl⟩
   go_wp2_with fail
   go_ret2
   exact ⟨by rw[HR.out];rfl,Below.refl _ _⟩
  have hme:m=1:=by omega
  subst hme
  clear hm hlt
  have hr:xBz s p ((c:Int)%32) 1=(bt s p:Int)%32*64+(bt s (p+1):Int)%64:=by
   rw[HBT.out]
   simp only[xBz,Nat.zero_add]
  have hR:=rune2 s p (by rw[HBT.out];omega) ⟨by omega,(HA.out 0 (by omega)).1,(HA.out 0 (by omega)).2⟩
  rw[←hr]at hR
  have hlo:128≤xBz s p ((c:Int)%32) 1:=by rw[hr,HBT.out];omega
  have hhi:xBz s p ((c:Int)%32) 1≤2047:=by rw[hr,HBT.out];omega
  generalize xBz s p ((c:Int)%32) 1=r at hR hlo hhi⊢
  have HR:Hid (zMz s p=(r,2)):=hR
  clear hR hr hab
  go_wp2_with fail
  refine (yBz r _ ⟨by omega,by omega,by omega⟩).mono ?_
  rintro e w' ⟨rfl,rfl⟩
  go_wp2_with fail
  go_ret2
  exact ⟨by rw[HR.out];rfl,(Below.refl _ _).alloc (Nat.le_refl _) _⟩
 have hR:=zgPz s p (by rw[HBT.out];omega) (by omega)
 have HR:Hid (zMz s p=(0,0)):=hR
 clear hR
 go_enter Tryz.func225,Tryz.ntmps225
 go_wp2_with fail
 refine (zgz _ 194 223 _ (by omega) (by omega)).mono ?_
 rintro e w' ⟨rfl,rfl⟩
 go_wp2_with fail
 go_ret2
 exact ⟨by rw[HR.out];rfl,Below.refl _ _⟩
theorem zknz(s:ByteArray)(p c:Nat)(w:World)(hp:p<s.size)(hs:s.size≤1099511627776)(hc:s[p].toNat=c)(hb1:224≤c)(hb2:c≤239):
  Calls Tryz.prog 225 #[.string s,.int .i64 (p:Int)] w fun e w'=>e=.returned (.tuple #[.int .i64 (zMz s p).1,.int .i64 (zMz s p).2])∧Below w.heap.size w w':=by
 have e0:bits .and .i64 (c:Int) 15=(c:Int)%16:=zm8z _ (by omega) (by omega)
 have hbt:bt s p=c:=by rw[zbZz s p hp,hc]
 have HBT:Hid (bt s p=c):=hbt
 clear hbt
 by_cases hshort:p+3≤s.size
 ·have hsh: ¬((s.size:Int)<(p:Int)+3):=by omega
  go_enter Tryz.func225,Tryz.ntmps225
  go_wp2_with fail
  refine (zmz _ 194 223 _ (.inr (by omega))).mono ?_
  rintro e w' ⟨rfl,rfl⟩
  go_wp2_with fail
  refine (zgz _ 224 239 _ (by omega) (by omega)).mono ?_
  rintro e w' ⟨rfl,rfl⟩
  go_wp2_with fail
  clear e0
  go_loop[8,9] (fun r i=> ∃m:Nat,m≤2∧i=.int .i64 ((m:Int)+1)∧r=.int .i64 (xBz s p ((c:Int)%16) m)∧ ∀j,j<m→128≤bt s (p+(j+1))∧bt s (p+(j+1))≤191) (fun _ i=>4-(intOf i).toNat)
  case atStart=>exact ⟨0,by omega,rfl,rfl,fun j h=>by omega⟩
  obtain ⟨m,hm,rfl,rfl,hall⟩:=hrel
  have HA:Hid (∀j,j<m→128≤bt s (p+(j+1))∧bt s (p+(j+1))≤191):=hall
  clear hall
  have hab:=zcBz s p ((c:Int)%16) (by omega) (by omega) m (by omega)
  by_cases hlt:m<2
  ·have hq:p+(m+1)<s.size:=by omega
   obtain ⟨d,hd⟩: ∃d:Nat,s[p+(m+1)].toNat=d:=⟨_,rfl⟩
   have hd255:d≤255:=by have:=s[p+(m+1)].toNat_lt;omega
   have HD:Hid (bt s (p+(m+1))=d):=by show _=_;rw[zbZz s _ hq,hd]
   have HN:Hid (xBz s p ((c:Int)%16) (m+1)=xBz s p ((c:Int)%16) m*64+(d:Int)%64):=by show _=_;rw[xBz,HD.out]
   generalize xBz s p ((c:Int)%16) m=a at hab HN⊢
   obtain ⟨ha0,ha1⟩:=hab
   have e1:bits .and .i64 (d:Int) 63=(d:Int)%64:=zdMz _ (by omega) (by omega)
   have e2:bits .or .i64 (a*64) ((d:Int)%64)=a*64+(d:Int)%64:=xZz 6 _ _ (by omega) (by omega) (by omega) (by omega) (by omega) (by omega)
   by_cases hg:128≤d∧d≤191
   ·obtain ⟨hg1,hg2⟩:=hg
    go_wp2_with fail
    refine (zgz _ 128 191 _ (by omega) (by omega)).mono ?_
    rintro e w' ⟨rfl,rfl⟩
    go_wp2_with fail
    go_round
    case rel=>
     refine ⟨m+1,by omega,by go_num,by rw[HN.out],fun j hj=> ?_⟩
     by_cases e:j=m
     ·subst e;rw[HD.out];exact ⟨hg1,hg2⟩
     exact HA.out j (by omega)
    case measure=>simp[intOf];omega
   have HG:Hid (((d:Int)<128)∨(191:Int)<(d:Int)):=by show _∨_;omega
   have hR:=zgQz s p (by rw[HBT.out];omega) (by
    intro hh
    have:=HD.out
    have hg':=hg
    rcases (show m=0∨m=1 by omega)with rfl|rfl
    all_goals (simp only[Nat.zero_add,Nat.reduceAdd]at this;omega))
   have HR:Hid (zMz s p=(0,0)):=hR
   clear hg hR
   go_wp2_with fail
   refine (zmz _ 128 191 _ HG.out).mono ?_
   rintro e w' ⟨rfl,rfl⟩
   go_wp2_with fail
   go_ret2
   exact ⟨by rw[HR.out];rfl,Below.refl _ _⟩
  have hme:m=2:=by omega
  subst hme
  clear hm hlt
  have hr:xBz s p ((c:Int)%16) 2=(bt s p:Int)%16*4096+(bt s (p+1):Int)%64*64+(bt s (p+2):Int)%64:=by
   rw[HBT.out]
   simp only[xBz,Nat.zero_add,Nat.reduceAdd]
   omega
  have hR:=rune3 s p (xBz s p ((c:Int)%16) 2) (by rw[HBT.out];omega) ⟨by omega,(HA.out 0 (by omega)).1,(HA.out 0 (by omega)).2,by omega,(HA.out 1 (by omega)).1,(HA.out 1 (by omega)).2⟩ hr
  have hhi:xBz s p ((c:Int)%16) 2≤65535:=by rw[hr,HBT.out];omega
  generalize xBz s p ((c:Int)%16) 2=r at hR hab hhi⊢
  obtain ⟨ha0,ha1⟩:=hab
  clear hr
  by_cases hl:r<2048
  ·rw[if_pos (.inl hl)]at hR
   have HR:Hid (zMz s p=(0,0)):=hR
   clear hR
   go_wp2_with fail
   go_ret2
   exact ⟨by rw[HR.out];rfl,(Below.refl _ _).alloc (Nat.le_refl _) _⟩
  by_cases hg: ¬(r<55296∨57343<r)
  ·rw[if_pos (.inr hg)]at hR
   have HR:Hid (zMz s p=(0,0)):=hR
   have HG:Hid (¬yrz r):=by show ¬_;unfold yrz;omega
   clear hR hg
   go_wp2_with fail
   refine (jdz r _ HG.out).mono ?_
   rintro e w' ⟨rfl,rfl⟩
   go_wp2_with fail
   go_ret2
   exact ⟨by rw[HR.out];rfl,(Below.refl _ _).alloc (Nat.le_refl _) _⟩
  rw[if_neg (by omega)]at hR
  have HR:Hid (zMz s p=(r,3)):=hR
  have HG:Hid (yrz r):=by show yrz r;unfold yrz;omega
  clear hR hg
  go_wp2_with fail
  refine (yBz r _ HG.out).mono ?_
  rintro e w' ⟨rfl,rfl⟩
  go_wp2_with fail
  go_ret2
  exact ⟨by rw[HR.out];rfl,(Below.refl _ _).alloc (Nat.le_refl _) _⟩
 have hR:=zgQz s p (by rw[HBT.out];omega) (by omega)
 have HR:Hid (zMz s p=(0,0)):=hR
 clear hR
 go_enter Tryz.func225,Tryz.ntmps225
 go_wp2_with fail
 refine (zmz _ 194 223 _ (.inr (by omega))).mono ?_
 rintro e w' ⟨rfl,rfl⟩
 go_wp2_with fail
 refine (zgz _ 224 239 _ (by omega) (by omega)).mono ?_
 rintro e w' ⟨rfl,rfl⟩
 go_wp2_with fail
 go_ret2
 exact ⟨by rw[HR.out];rfl,Below.refl _ _⟩
theorem zkoz(s:ByteArray)(p c:Nat)(w:World)(hp:p<s.size)(hs:s.size≤1099511627776)(hc:s[p].toNat=c)(hb1:240≤c)(hb2:c≤244):
  Calls Tryz.prog 225 #[.string s,.int .i64 (p:Int)] w fun e w'=>e=.returned (.tuple #[.int .i64 (zMz s p).1,.int .i64 (zMz s p).2])∧Below w.heap.size w w':=by
 have e0:bits .and .i64 (c:Int) 7=(c:Int)%8:=zoBz _ (by omega) (by omega)
 have hbt:bt s p=c:=by rw[zbZz s p hp,hc]
 have HBT:Hid (bt s p=c):=hbt
 clear hbt
 by_cases hshort:p+4≤s.size
 ·have hsh: ¬((s.size:Int)<(p:Int)+4):=by omega
  go_enter Tryz.func225,Tryz.ntmps225
  go_wp2_with fail
  refine (zmz _ 194 223 _ (.inr (by omega))).mono ?_
  rintro e w' ⟨rfl,rfl⟩
  go_wp2_with fail
  refine (zmz _ 224 239 _ (.inr (by omega))).mono ?_
  rintro e w' ⟨rfl,rfl⟩
  go_wp2_with fail
  refine (zgz _ 240 244 _ (by omega) (by omega)).mono ?_
  rintro e w' ⟨rfl,rfl⟩
  go_wp2_with fail
  clear e0
  go_loop[8,9] (fun r i=> ∃m:Nat,m≤3∧i=.int .i64 ((m:Int)+1)∧r=.int .i64 (xBz s p ((c:Int)%8) m)∧ ∀j,j<m→128≤bt s (p+(j+1))∧bt s (p+(j+1))≤191) (fun _ i=>5-(intOf i).toNat)
  case atStart=>exact ⟨0,by omega,rfl,rfl,fun j h=>by omega⟩
  obtain ⟨m,hm,rfl,rfl,hall⟩:=hrel
  have HA:Hid (∀j,j<m→128≤bt s (p+(j+1))∧bt s (p+(j+1))≤191):=hall
  clear hall
  have hab:=zcBz s p ((c:Int)%8) (by omega) (by omega) m (by omega)
  by_cases hlt:m<3
  ·have hq:p+(m+1)<s.size:=by omega
   obtain ⟨d,hd⟩: ∃d:Nat,s[p+(m+1)].toNat=d:=⟨_,rfl⟩
   have hd255:d≤255:=by have:=s[p+(m+1)].toNat_lt;omega
   have HD:Hid (bt s (p+(m+1))=d):=by show _=_;rw[zbZz s _ hq,hd]
   have HN:Hid (xBz s p ((c:Int)%8) (m+1)=xBz s p ((c:Int)%8) m*64+(d:Int)%64):=by show _=_;rw[xBz,HD.out]
   generalize xBz s p ((c:Int)%8) m=a at hab HN⊢
   obtain ⟨ha0,ha1⟩:=hab
   have e1:bits .and .i64 (d:Int) 63=(d:Int)%64:=zdMz _ (by omega) (by omega)
   have e2:bits .or .i64 (a*64) ((d:Int)%64)=a*64+(d:Int)%64:=xZz 6 _ _ (by omega) (by omega) (by omega) (by omega) (by omega) (by omega)
   by_cases hg:128≤d∧d≤191
   ·obtain ⟨hg1,hg2⟩:=hg
    go_wp2_with fail
    refine (zgz _ 128 191 _ (by omega) (by omega)).mono ?_
    rintro e w' ⟨rfl,rfl⟩
    go_wp2_with fail
    go_round
    case rel=>
     refine ⟨m+1,by omega,by go_num,by rw[HN.out],fun j hj=> ?_⟩
     by_cases e:j=m
     ·subst e;rw[HD.out];exact ⟨hg1,hg2⟩
     exact HA.out j (by omega)
    case measure=>simp[intOf];omega
   have HG:Hid (((d:Int)<128)∨(191:Int)<(d:Int)):=by show _∨_;omega
   have hR:=zgRz s p (by rw[HBT.out];omega) (by
    intro hh
    have:=HD.out
    have hg':=hg
    rcases (show m=0∨m=1∨m=2 by omega)with rfl|rfl|rfl
    all_goals (simp only[Nat.zero_add,Nat.reduceAdd]at this;omega))
   have HR:Hid (zMz s p=(0,0)):=hR
   clear hg hR
   go_wp2_with fail
   refine (zmz _ 128 191 _ HG.out).mono ?_
   rintro e w' ⟨rfl,rfl⟩
   go_wp2_with fail
   go_ret2
   exact ⟨by rw[HR.out];rfl,Below.refl _ _⟩
  have hme:m=3:=by omega
  subst hme
  clear hm hlt
  have hr:xBz s p ((c:Int)%8) 3=(bt s p:Int)%8*262144+(bt s (p+1):Int)%64*4096+(bt s (p+2):Int)%64*64+(bt s (p+3):Int)%64:=by
   rw[HBT.out]
   simp only[xBz,Nat.zero_add,Nat.reduceAdd]
   omega
  have hR:=rune4 s p (xBz s p ((c:Int)%8) 3) (by rw[HBT.out];omega) ⟨by omega,(HA.out 0 (by omega)).1,(HA.out 0 (by omega)).2,by omega,(HA.out 1 (by omega)).1,(HA.out 1 (by omega)).2,by omega,(HA.out 2 (by omega)).1,(HA.out 2 (by omega)).2⟩ hr
  have hhi:xBz s p ((c:Int)%8) 3≤2097151:=by rw[hr,HBT.out];omega
  generalize xBz s p ((c:Int)%8) 3=r at hR hab hhi⊢
  obtain ⟨ha0,ha1⟩:=hab
  clear hr
  by_cases hl:r<65536
  ·rw[if_pos (.inl hl)]at hR
   have HR:Hid (zMz s p=(0,0)):=hR
   clear hR
   go_wp2_with fail
   go_ret2
   exact ⟨by rw[HR.out];rfl,(Below.refl _ _).alloc (Nat.le_refl _) _⟩
  by_cases hg: ¬r≤1114111
  ·rw[if_pos (.inr hg)]at hR
   have HR:Hid (zMz s p=(0,0)):=hR
   have HG:Hid (¬yrz r):=by show ¬_;unfold yrz;omega
   clear hR hg
   go_wp2_with fail
   refine (jdz r _ HG.out).mono ?_
   rintro e w' ⟨rfl,rfl⟩
   go_wp2_with fail
   go_ret2
   exact ⟨by rw[HR.out];rfl,(Below.refl _ _).alloc (Nat.le_refl _) _⟩
  rw[if_neg (by omega)]at hR
  have HR:Hid (zMz s p=(r,4)):=hR
  have HG:Hid (yrz r):=by show yrz r;unfold yrz;omega
  clear hR hg
  go_wp2_with fail
  refine (yBz r _ HG.out).mono ?_
  rintro e w' ⟨rfl,rfl⟩
  go_wp2_with fail
  go_ret2
  exact ⟨by rw[HR.out];rfl,(Below.refl _ _).alloc (Nat.le_refl _) _⟩
 have hR:=zgRz s p (by rw[HBT.out];omega) (by omega)
 have HR:Hid (zMz s p=(0,0)):=hR
 clear hR
 go_enter Tryz.func225,Tryz.ntmps225
 go_wp2_with fail
 refine (zmz _ 194 223 _ (.inr (by omega))).mono ?_
 rintro e w' ⟨rfl,rfl⟩
 go_wp2_with fail
 refine (zmz _ 224 239 _ (.inr (by omega))).mono ?_
 rintro e w' ⟨rfl,rfl⟩
 go_wp2_with fail
 refine (zgz _ 240 244 _ (by omega) (by omega)).mono ?_
 rintro e w' ⟨rfl,rfl⟩
 go_wp2_with fail
 go_ret2
 exact ⟨by rw[HR.out];rfl,Below.refl _ _⟩
theorem zkpz(s:ByteArray)(p c:Nat)(w:World)(hp:p<s.size)(_hs:s.size≤1099511627776)(hc:s[p].toNat=c)(hb:c<128):
  Calls Tryz.prog 225 #[.string s,.int .i64 (p:Int)] w fun e w'=>e=.returned (.tuple #[.int .i64 (zMz s p).1,.int .i64 (zMz s p).2])∧Below w.heap.size w w':=by
 have hR:=rune1 s p (by rw[zbZz s p hp,hc];omega)
 rw[zbZz s p hp,hc]at hR
 have HR:Hid (zMz s p=((c:Int),1)):=hR
 clear hR
 go_enter Tryz.func225,Tryz.ntmps225
 go_wp2_with fail
 go_ret2
 exact ⟨by rw[HR.out];rfl,Below.refl _ _⟩
theorem zkqz(s:ByteArray)(p c:Nat)(w:World)(hp:p<s.size)(_hs:s.size≤1099511627776)(hc:s[p].toNat=c)(hb:128≤c)(hb2:c<194∨244<c):
  Calls Tryz.prog 225 #[.string s,.int .i64 (p:Int)] w fun e w'=>e=.returned (.tuple #[.int .i64 (zMz s p).1,.int .i64 (zMz s p).2])∧Below w.heap.size w w':=by
 have hR:=rune0 s p (by rw[zbZz s p hp,hc];omega) (by rw[zbZz s p hp,hc];omega)
 have HR:Hid (zMz s p=(0,0)):=hR
 have h255:c≤255:=by have:=s[p].toNat_lt;omega
 have HB:Hid (c<194∨244<c):=hb2
 clear hR hb2
 go_enter Tryz.func225,Tryz.ntmps225
 go_wp2_with fail
 refine (zmz _ 194 223 _ (by have:=HB.out;omega)).mono ?_
 rintro e w' ⟨rfl,rfl⟩
 go_wp2_with fail
 refine (zmz _ 224 239 _ (by have:=HB.out;omega)).mono ?_
 rintro e w' ⟨rfl,rfl⟩
 go_wp2_with fail
 refine (zmz _ 240 244 _ (by have:=HB.out;omega)).mono ?_
 rintro e w' ⟨rfl,rfl⟩
 go_wp2_with fail
 go_ret2
 exact ⟨by rw[HR.out];rfl,Below.refl _ _⟩
theorem zfZz(s:ByteArray)(p:Nat)(w:World)(hp:p<s.size)(hs:s.size≤1099511627776):
  Calls Tryz.prog 225 #[.string s,.int .i64 (p:Int)] w fun e w'=>e=.returned (.tuple #[.int .i64 (zMz s p).1,.int .i64 (zMz s p).2])∧Below w.heap.size w w':=by
 by_cases h1:s[p].toNat<128
 ·exact zkpz s p _ w hp hs rfl h1
 by_cases h2:194≤s[p].toNat∧s[p].toNat≤223
 ·exact zkmz s p _ w hp hs rfl h2.1 h2.2
 by_cases h3:224≤s[p].toNat∧s[p].toNat≤239
 ·exact zknz s p _ w hp hs rfl h3.1 h3.2
 by_cases h4:240≤s[p].toNat∧s[p].toNat≤244
 ·exact zkoz s p _ w hp hs rfl h4.1 h4.2
 exact zkqz s p _ w hp hs rfl (by omega) (by omega)
theorem zmUz(x:Int): ∀u∈ #[Value.int .i64 x].toList,u.oneCell'=true:=by
 intro u hu;simp at hu;subst hu;rfl
def zaEz(s:ByteArray)(w:World)(e:Ending)(w':World):Prop:=
 ((z5z s).1=s.size∧ ∃v,e=.returned (.tuple #[v,.bool true])∧w'.ownsRow w.heap.size 3 1 v (z5z s).2.length (zlz (z5z s).2)∧Below w.heap.size w w')∨
 ((z5z s).1≠s.size∧ ∃v,e=.returned (.tuple #[v,.bool false])∧w'.ownsRow w.heap.size 3 1 v 0 (zlz [])∧Below w.heap.size w w')
theorem zf0z(s:ByteArray)(k:Nat)(h1:(stR s k).1<s.size)(h2:okAt s (stR s k).1){w1:World}{B:Nat}{v:Value}{e:TypeId}{x:Int}(hx:x=((Utf8.decode s (stR s k).1).1:Int))
  (hown:w1.ownsRow B e 1 v ((stR s k).2.length+1) (zlz (stR s k).2++[.int .i64 x])):
  w1.ownsRow B e 1 v (stR s (k+1)).2.length (zlz (stR s (k+1)).2):=by
 subst hx
 rw[zc0z s k h1 h2]
 simp only
 rw[vUz,List.length_append]
 exact hown
theorem zdBz{w:World}{B:Nat}{e:TypeId}{size:Nat}{v:Value}{n:Nat}{xs:List Value}{K:Nat}{s:ByteArray}{p:Nat}(h:w.ownsRow B e size v n xs)(hk:w.heap[K]? =some (.stringIter s p)):some K≠v.ownBlock:=by
 intro hx
 rcases h.2 with ⟨rfl,_⟩|⟨g,cap,cur,rfl,_,hg,_⟩
 ·simp[Value.ownBlock]at hx
 simp[Value.ownBlock]at hx
 subst hx
 rw[hk]at hg
 simp at hg
theorem zlFz{w:World}{B:Nat}{e:TypeId}{size:Nat}{v:Value}{n:Nat}{xs:List Value}{K:Nat}{s:ByteArray}{p:Nat}(h:w.ownsRow B e size v n xs)(hk:w.heap[K]? =some (.stringIter s p))(p':Nat):(w.iterAt K s p').ownsRow B e size v n xs:=by
 have hne:=zdBz h hk
 refine ⟨h.1,?_⟩
 rcases h.2 with hn|⟨g,cap,cur,rfl,hb,hg,rest⟩
 ·exact .inl hn
 refine .inr ⟨g,cap,cur,rfl,hb,?_,rest⟩
 have hgk:g≠K:=by
  intro e
  subst e
  simp[Value.ownBlock]at hne
 rw[Lib.iterAt_other w K g s p' hgk]
 exact hg
theorem znXz(s:ByteArray)(w:World)(hs:s.size≤1048576):
  Calls Tryz.prog 188 #[.string s] w fun e w'=>zaEz s w e w':=by
 go_enter Tryz.func188,Tryz.ntmps188
 go_wp2
 go_loopw[4,5] (fun v i wr=> ∃k:Nat,i=.int .i64 ((stR s k).1:Int)∧wr.ownsRow w.heap.size 3 1 v (stR s k).2.length (zlz (stR s k).2)∧Below w.heap.size w wr)
  (fun _ i _=>s.size-(intOf i).toNat)
 case atStart=>exact ⟨0,rfl,World.ownsRow_lit w #[] 0 (Nat.le_refl _) (by decide) rfl,(Below.refl _ _).alloc (Nat.le_refl _) _⟩
 obtain ⟨k,rfl,hown,hbel⟩:=hrel
 have hsz:=hbel.size
 have hl:=zjjz s k
 have hle:=zh5z s k
 have HS1:Hid (∀(h1:(stR s k).1<s.size) (h2:okAt s (stR s k).1),(stR s (k+1)).1=(stR s k).1+(Utf8.decode s (stR s k).1).2):=fun h1 h2=>by rw[zc0z s k h1 h2]
 have HST:Hid (¬((stR s k).1<s.size∧okAt s (stR s k).1)→stR s k=z5z s):=fun h=>zh4z s k h
 have HSP:Hid (∀(h1:(stR s k).1<s.size) (h2:okAt s (stR s k).1) (w1:World) (v:Value) (x:Int) (hx:x=((Utf8.decode s (stR s k).1).1:Int)),
  w1.ownsRow w.heap.size 3 1 v ((stR s k).2.length+1) (zlz (stR s k).2++[.int .i64 x])→w1.ownsRow w.heap.size 3 1 v (stR s (k+1)).2.length (zlz (stR s (k+1)).2)):=
  fun h1 h2 w1 v x hx h=>zf0z s k h1 h2 hx h
 have HP:Hid ((stR s k).1=(stR s k).1):=rfl
 by_cases hlt:(stR s k).1<s.size
 ·have hw:=Lib.decode_width_pos s (stR s k).1 hlt
  by_cases hok:okAt s (stR s k).1
  ·have hr:zMz s (stR s k).1=(((Utf8.decode s (stR s k).1).1:Int),((Utf8.decode s (stR s k).1).2:Int)):=by unfold zMz;rw[if_pos hok]
   have hw4:(stR s k).1+(Utf8.decode s (stR s k).1).2≤s.size:=by rw[←HS1.out hlt hok];exact zh5z s (k+1)
   have HOK:Hid (okAt s (stR s k).1):=hok
   have cr:=zfZz s (stR s k).1
   rw[hr]at cr
   have CR:Hid (∀(W:World) (_:(stR s k).1<s.size) (_:s.size≤1099511627776),CB 225 #[.string s,.int .i64 ((stR s k).1:Int)] W (.tuple #[.int .i64 ((Utf8.decode s (stR s k).1).1:Int),.int .i64 ((Utf8.decode s (stR s k).1).2:Int)])):=cr
   clear hok hr cr HST
   have H1:Hid ((stR s (k+1)).1=(stR s k).1+(Utf8.decode s (stR s k).1).2):=HS1.out hlt HOK.out
   have H2:Hid (∀(w1:World) (v:Value),w1.ownsRow w.heap.size 3 1 v ((stR s k).2.length+1) (zlz (stR s k).2++[.int .i64 ((Utf8.decode s (stR s k).1).1:Int)])→w1.ownsRow w.heap.size 3 1 v (stR s (k+1)).2.length (zlz (stR s (k+1)).2)):=
    fun w1 v h=>HSP.out hlt HOK.out w1 v _ rfl h
   clear HS1 HSP HP
   generalize (Utf8.decode s (stR s k).1).1=R at*
   generalize (Utf8.decode s (stR s k).1).2=W at*
   generalize hp:(stR s k).1=p at*
   generalize (stR s k).2=l at*
   have HPP:Hid ((stR s k).1=p):=hp
   clear hp
   have hne:((W:Int)==0)=false:=by simp;omega
   go_wp2_with fail
   refine (CR.out _ hlt (by omega)).mono ?_
   rintro e wc ⟨rfl,hbc⟩
   have hown2:=zkz hown hbc
   have hsc:=hbc.size
   go_wp2_with (at_builtin;refine zbz _ rfl _ _ 95 rfl w.heap.size 3 (.int .i64 0) 8 Tryz.underlying95 Tryz.infoInt rfl _ _ _ rfl hown2 #[.int .i64 (R:Int)] 1 rfl rfl (zmUz _) (by omega) (by unfold maxLen;omega) (by omega) ?_)
   intro v' w1 hown' hb1
   have R1:=H2.out w1 v' hown'
   have B1:Below w.heap.size w w1:=(hbel.trans (hbc.mono hsz)).trans hb1
   clear hown' hb1 hown hbel hown2 hbc
   go_wp2
   go_roundw
   case rel=>exact ⟨k+1,by rw[H1.out];go_num,R1,B1⟩
   case measure=>simp[intOf];omega
  have hr:zMz s (stR s k).1=(0,0):=by unfold zMz;rw[if_neg hok]
  have HF:Hid (stR s k=z5z s):=HST.out (fun h=>hok h.2)
  have cr:=zfZz s (stR s k).1
  rw[hr]at cr
  have CR:Hid (∀(W:World) (_:(stR s k).1<s.size) (_:s.size≤1099511627776),CB 225 #[.string s,.int .i64 ((stR s k).1:Int)] W (.tuple #[.int .i64 0,.int .i64 0])):=cr
  clear hok hr cr HST HS1 HSP HP hw
  have HN:Hid ((z5z s).1≠s.size):=by show _≠_;rw[←HF.out];omega
  generalize (stR s k).1=p at*
  clear HF
  go_wp2_with fail
  refine (CR.out _ hlt (by omega)).mono ?_
  rintro e wc ⟨rfl,hbc⟩
  have hsc:=hbc.size
  have B1:Below w.heap.size w (wc.alloc (.cells #[] 3)):=(hbel.trans (hbc.mono hsz)).alloc (by omega) _
  have O1:(wc.alloc (.cells #[] 3)).ownsRow w.heap.size 3 1 (.slice (some ⟨wc.heap.size,0,none⟩) 0 0) 0 (zlz []):=World.ownsRow_lit wc #[] 0 (by omega) (by decide) rfl
  go_wp2
  go_ret2
  exact .inr ⟨HN.out,_,rfl,O1,B1⟩
 have HF:Hid (stR s k=z5z s):=HST.out (fun h=>hlt h.1)
 have HN:Hid ((z5z s).1=s.size):=by show _=_;rw[←HF.out];omega
 have O1:wr.ownsRow w.heap.size 3 1 u4 (z5z s).2.length (zlz (z5z s).2):=by rw[←HF.out];exact hown
 clear HF HST HS1 HSP HP hown
 generalize (stR s k).1=p at*
 go_wp2
 go_ret2
 exact .inl ⟨HN.out,_,rfl,O1,hbel⟩
theorem zhCz(s:ByteArray)(w:World)(hs:s.size≤1048576)(hT:Lib.Utf8Tabs 12 13 w):
  Calls Tryz.prog 291 #[.string s] w fun e w'=>zaEz s w e w':=by
 obtain ⟨i0,hi,hz0,hz1,hz2⟩:=info_parts Tryz.infoInt
 have cv:=Any.utf8_ValidString Tryz.lays196 s w (by omega) hT
 have CV:Hid (CB 296 #[.string s] w (.bool (Lib.validD s.data.toList))):=cv
 clear cv hT
 by_cases hv:Lib.validD s.data.toList=true
 ·have HV:Hid (Lib.validD s.data.toList=true):=hv
  have HN:Hid ((z5z s).1=s.size):=(zdQz s).1 hv
  have CV2:Hid (CB 296 #[.string s] w (.bool true)):=by have h:=CV.out;rw[hv]at h;exact h
  have hrc:=Lib.runeCount_le s
  clear hv CV
  go_enter Tryz.func291,Tryz.ntmps291
  go_wp2_with fail
  refine CV2.out.mono ?_
  rintro e wa ⟨rfl,ba⟩
  go_wp2_with fail
  refine (Tryz.utf8_RuneCountInString s _ (by omega)).mono ?_
  rintro e wb ⟨rfl,pos,hwb⟩
  have bb:Below wa.heap.size wa wb:=by rw[hwb];exact (Below.refl _ _).alloc (Nat.le_refl _) _
  have za:=ba.size
  have Bb:Below w.heap.size w wb:=ba.trans (bb.mono za)
  clear hwb bb ba pos
  have zb:=Bb.size
  generalize Lib.runeCount s=rc at*
  go_wp2_with (at_make;refine wpList_make_own _ rfl _ _ 95 rfl w.heap.size 3 i0 (.int .i64 0) 1 Tryz.underlying95 hi hz0 hz1 _ _ _ rc rfl rfl (by omega) (by rw[hz2];omega) (by unfold maxLen;omega) zb ?_)
  intro wm hmo hgm
  have Bm:Below w.heap.size w wm:=Bb.grown hgm zb (fun k hk=>by cases hk)
  have zm:=Bm.size
  have hit:(wm.iter s 0).heap[wm.heap.size]? =some (.stringIter s 0):=World.iter_heap wm s 0
  have Bi:Below w.heap.size w (wm.iter s 0):=Bm.alloc zm _
  have oi:(wm.iter s 0).ownsRow w.heap.size 3 1 (.slice (some ⟨wb.heap.size,0,none⟩) 0 rc) 0 []:=hmo.alloc _
  clear hgm hmo Bb Bm
  have HK:Hid (w.heap.size≤wm.heap.size):=zm
  go_wp2_with fail
  generalize wm.heap.size=K at hit HK⊢
  go_loopw[4] (fun v wr=> ∃k:Nat,wr.heap[K]? =some (.stringIter s (stR s k).1)∧wr.ownsRow w.heap.size 3 1 v (stR s k).2.length (zlz (stR s k).2)∧Below w.heap.size w wr)
   (fun _ wr=>s.size-wr.iterPos K)
  case atStart=>exact ⟨0,hit,oi,Bi⟩
  obtain ⟨k,hk,hown,hbel⟩:=hrel
  clear hit oi Bi
  have hsz:=hbel.size
  have hl:=zjjz s k
  have hle:=zh5z s k
  by_cases hlt:(stR s k).1<s.size
  ·have hok:=zoUz s HV.out k hlt
   have H1:Hid ((stR s (k+1)).1=(stR s k).1+(Utf8.decode s (stR s k).1).2):=by show _=_;rw[zc0z s k hlt hok]
   have H2:Hid (∀(w1:World) (v:Value),w1.ownsRow w.heap.size 3 1 v ((stR s k).2.length+1) (zlz (stR s k).2++[.int .i64 ((Utf8.decode s (stR s k).1).1:Int)])→w1.ownsRow w.heap.size 3 1 v (stR s (k+1)).2.length (zlz (stR s (k+1)).2)):=
    fun w1 v h=>zf0z s k hlt hok rfl h
   have hw:=Lib.decode_width_pos s (stR s k).1 hlt
   have hr31:=decode_le s (stR s k).1
   have hnx:=fun ty=>Lib.run_next_any_at (P:=Tryz.prog) wr K s (stR s k).1 ty hk hlt
   have hk2:=Lib.iterAt_heap wr K s (stR s k).1 ((stR s k).1+(Utf8.decode s (stR s k).1).2) hk
   have hown2:=zlFz hown hk ((stR s k).1+(Utf8.decode s (stR s k).1).2)
   have hneK:some K≠u4.ownBlock:=zdBz hown hk
   have hbel2:=Lib.below_iterAt hbel HK.out s ((stR s k).1+(Utf8.decode s (stR s k).1).2)
   have hKlt:K<wr.heap.size:=(Array.getElem?_eq_some_iff.1 hk).1
   have HI:Hid (wr.iterPos K=(stR s k).1):=by show _=_;unfold World.iterPos;rw[hk]
   generalize (Utf8.decode s (stR s k).1).1=R at*
   generalize (Utf8.decode s (stR s k).1).2=W at*
   have HNK:Hid (some K≠u4.ownBlock):=hneK
   clear hok hneK hown hbel
   generalize hp:(stR s k).1=p at*
   generalize (stR s k).2=l at*
   have HPP:Hid ((stR s k).1=p):=hp
   clear hp
   have zi:(wr.iterAt K s (p+W)).heap.size=wr.heap.size:=Lib.iterAt_size wr K s (p+W)
   have HZI:Hid ((wr.iterAt K s (p+W)).heap.size=wr.heap.size):=zi
   have hz3:w.heap.size≤(wr.iterAt K s (p+W)).heap.size:=by omega
   have hK3:K<(wr.iterAt K s (p+W)).heap.size:=by omega
   clear zi hk
   generalize wr.iterAt K s (p+W)=wi at*
   go_wp2_with (at_builtin;refine jAz _ rfl _ _ 95 rfl w.heap.size 3 (.int .i64 0) 8 Tryz.underlying95 Tryz.infoInt rfl _ _ _ rfl hown2 #[.int .i64 (R:Int)] 1 rfl rfl (zmUz _) (by omega) (by unfold maxLen;omega) hz3 ?_)
   intro v' w1 hown' hb1 hkeep
   have R1:=H2.out w1 v' hown'
   have B1:Below w.heap.size w w1:=hbel2.trans hb1
   have K1:w1.heap[K]? =some (.stringIter s (p+W)):=(hkeep K hK3 HNK.out).trans hk2
   have HI1:Hid (w1.iterPos K=p+W):=by show _=_;unfold World.iterPos;rw[K1]
   clear hown' hb1 hown2 hbel2 hkeep hk2
   go_wp2
   go_roundw
   case rel=>exact ⟨k+1,by rw[H1.out];exact K1,R1,B1⟩
   case measure=>
    have a:=HI.out
    have b:=HI1.out
    simp only[a,b]
    omega
  have HF:Hid (stR s k=z5z s):=zh4z s k (fun h=>hlt h.1)
  have hnx:=fun ty=>Lib.run_next_end_at (P:=Tryz.prog) wr K s (stR s k).1 ty hk hlt
  have O1:wr.ownsRow w.heap.size 3 1 u4 (z5z s).2.length (zlz (z5z s).2):=by rw[←HF.out];exact hown
  clear HF hown
  go_wp2
  go_ret2
  exact .inl ⟨HN.out,_,rfl,O1,hbel⟩
 have HN:Hid ((z5z s).1≠s.size):=fun h=>hv ((zdQz s).2 h)
 have CV2:Hid (CB 296 #[.string s] w (.bool false)):=by
  have h:=CV.out
  rw[Bool.not_eq_true]at hv
  rw[hv]at h
  exact h
 clear hv CV
 go_enter Tryz.func291,Tryz.ntmps291
 go_wp2_with fail
 refine CV2.out.mono ?_
 rintro e wa ⟨rfl,ba⟩
 have za:=ba.size
 have B1:Below w.heap.size w (wa.alloc (.cells #[] 3)):=ba.alloc za _
 have O1:(wa.alloc (.cells #[] 3)).ownsRow w.heap.size 3 1 (.slice (some ⟨wa.heap.size,0,none⟩) 0 0) 0 (zlz []):=World.ownsRow_lit wa #[] 0 za (by decide) rfl
 go_wp2
 go_ret2
 exact .inr ⟨HN.out,_,rfl,O1,B1⟩
theorem zkrz(s:ByteArray)(h:600<(s.size:Int)):yaz (sN s)=none:=by
 cases hd:yaz (sN s)with
 |none=>rfl
 |some l=>
  obtain ⟨hok,he⟩:=(zaVz _ _).1 hd
  have:=zc7z hok
  rw[he,zNz]at this
  omega
theorem zlGz(s:ByteArray)(w:World)(h:600<(s.size:Int)):
  Calls Tryz.prog 230 #[.string s] w fun e w'=>vCz w w' none e∧Below w.heap.size w w':=by
 go_enter Tryz.func230,Tryz.ntmps230
 go_wp2
 go_ret2
 exact ⟨zKz rfl (World.ownsRow_lit w #[] 0 (Nat.le_refl _) (by decide) rfl) rfl,(Below.refl _ _).alloc (Nat.le_refl _) _⟩
theorem zlHz(s:ByteArray)(w:World):Calls Tryz.prog 230 #[.string s] w fun e w'=>vCz w w' (yaz (sN s)) e∧Below w.heap.size w w':=by
 by_cases h:(s.size:Int)≤600
 ·exact zfpz s w h
 rw[zkrz s (by omega)]
 exact zlGz s w (by omega)
theorem zlIz(s:ByteArray)(w:World):Calls Tryz.prog 295 #[.string s] w fun e w'=>vCz w w' (yaz (sN s)) e∧Below w.heap.size w w':=by
 by_cases h:(s.size:Int)≤600
 ·exact zfYz s w h
 rw[zkrz s (by omega)]
 exact zcAz s w (by omega)
theorem zcCz{zl:List Int}(h:zcZz zl):zl=(zl.map Int.toNat).map (fun (c:Nat)=>(c:Int)):=by
 rw[List.map_map]
 refine (List.map_id zl).symm.trans (List.map_congr_left fun z hz=> ?_)
 have:=(h z hz).1
 show z=((z.toNat:Nat):Int)
 omega
theorem zaFz{zl:List Int}(h:zcZz zl)(h2:zl.length≤60):yGz (zl.map Int.toNat)=true:=by
 rw[zeJz,←zcCz h]
 exact ⟨h2,h⟩
theorem zqez{zl:List Int}(h2: ¬zl.length≤60):yGz (zl.map Int.toNat)=false:=by
 unfold yGz
 rw[List.length_map,decide_eq_false h2]
 rfl
def jQz(zl:List Int):Value:=if zl.length≤60 then .tuple #[.string ⟨(b8 (zzz (zl.map Int.toNat))).toArray⟩,.bool true]else .tuple #[.string ⟨#[]⟩,.bool false]
theorem zdCz(zl:List Int)(v:Value)(B:Nat)(w:World)(hk:zcZz zl)(hl:zl.length≤1048576)(h:w.ownsRow B 3 1 v zl.length (zlz zl)):
  Calls Tryz.prog 189 #[v] w fun e w'=>e=.returned (jQz zl)∧Below w.heap.size w w':=by
 by_cases h2:zl.length≤60
 ·have e:jQz zl=.tuple #[.string ⟨(b8 (zzz (zl.map Int.toNat))).toArray⟩,.bool true]:=if_pos h2
  rw[e]
  refine zlDz (zl.map Int.toNat) v B w (zaFz hk h2) ?_
  unfold icN
  rw[←zcCz hk,List.length_map]
  exact h
 have e:jQz zl=.tuple #[.string ⟨#[]⟩,.bool false]:=if_neg h2
 rw[e]
 rcases zrz h with ⟨h0,_⟩|⟨_,g,cap,rfl⟩
 ·omega
 exact vhz zl zl.length g cap B w (fun hh=>h2 hh.1) rfl hl h
theorem zdDz(zl:List Int)(v:Value)(B:Nat)(w:World)(hk:zcZz zl)(hl:zl.length≤1048576)(h:w.ownsRow B 3 1 v zl.length (zlz zl)):
  Calls Tryz.prog 292 #[v] w fun e w'=>e=.returned (jQz zl)∧Below w.heap.size w w':=by
 have hr:w.ownsRow B 3 1 v (zl.map Int.toNat).length (icN (zl.map Int.toNat)):=by
  unfold icN
  rw[←zcCz hk,List.length_map]
  exact h
 have hc:=zfXz (zl.map Int.toNat) v B w (by rw[List.length_map];exact hl) hr
 by_cases h2:zl.length≤60
 ·have e:jQz zl=.tuple #[.string ⟨(b8 (zzz (zl.map Int.toNat))).toArray⟩,.bool true]:=if_pos h2
  rw[e]
  rw[zaFz hk h2,if_pos rfl]at hc
  exact hc
 have e:jQz zl=.tuple #[.string ⟨#[]⟩,.bool false]:=if_neg h2
 rw[e]
 rw[zqez h2,if_neg (by decide)]at hc
 exact hc
theorem zbVz(s:ByteArray)(h:(z5z s).1=s.size):zcZz (z5z s).2:=(zoWz s h).1
theorem ziLz(s:ByteArray):(z5z s).2.length≤s.size:=zrhz s s.size
theorem zrOz{l:List UInt8}(h:isXn l=true):Lib.trimPrefix l xn=l.drop 4:=by
 have h':Lib.hasPrefix l xn=true:=h
 unfold Lib.trimPrefix
 rw[if_pos h']
 rfl
theorem zrPz{l:List UInt8}(h:isXn l=false):Lib.trimPrefix l xn=l:=by
 have h':Lib.hasPrefix l xn=false:=h
 unfold Lib.trimPrefix
 rw[if_neg (by rw[h'];decide)]
def xKz(l:List UInt8):Option (List Nat):=if isXn l=true then yaz (nat8 (l.drop 4))else none
theorem zf1z(s:ByteArray)(w:World):
  Calls Tryz.prog 290 #[.string s] w fun e w'=>e=.returned (.bool (!(isXn s.data.toList)||(xKz s.data.toList).isSome))∧Below w.heap.size w w':=by
 have CP:=Tryz.strings_CutPrefix s ⟨#[120,110,45,45]⟩ w
 have CP':Hid (Calls Tryz.prog 294 #[.string s,.string ⟨#[120,110,45,45]⟩] w fun e w'=>e=.returned (.tuple #[.string ⟨(Lib.trimPrefix s.data.toList xn).toArray⟩,.bool (isXn s.data.toList)])∧w'=w):=CP
 clear CP
 cases hx:isXn s.data.toList with
 |false=>
  rw[hx,zrPz hx]at CP'
  clear hx
  go_enter Tryz.func290,Tryz.ntmps290
  go_wp2_with fail
  refine CP'.out.mono ?_
  rintro e w' ⟨rfl,rfl⟩
  go_wp2_with fail
  go_ret
  exact ⟨rfl,Below.refl _ _⟩
 |true=>
  rw[hx,zrOz hx]at CP'
  have CD:Hid (∀W,Calls Tryz.prog 295 #[.string ⟨(s.data.toList.drop 4).toArray⟩] W fun e w'=>vCz W w' (xKz s.data.toList) e∧Below W.heap.size W w'):=fun W=>by
   have h:=zlIz ⟨(s.data.toList.drop 4).toArray⟩ W
   have e:yaz (sN ⟨(s.data.toList.drop 4).toArray⟩)=xKz s.data.toList:=by
    unfold xKz
    rw[if_pos hx]
    rfl
   rw[e]at h
   exact h
  clear hx
  go_enter Tryz.func290,Tryz.ntmps290
  go_wp2_with fail
  refine CP'.out.mono ?_
  rintro e w' ⟨rfl,rfl⟩
  go_wp2_with fail
  refine (CD.out _).mono ?_
  rintro e wa ⟨hd,ba⟩
  cases hr:xKz s.data.toList with
  |some l=>
   rw[hr]at hd
   obtain ⟨v,rfl,_⟩:=hd
   have HR:Hid (xKz s.data.toList=some l):=hr
   clear hr CD CP'
   go_wp2_with fail
   go_ret
   exact ⟨zez (by rw[HR.out];rfl),ba⟩
  |none=>
   rw[hr]at hd
   obtain ⟨v,rfl,_⟩:=hd
   have HR:Hid (xKz s.data.toList=none):=hr
   clear hr CD CP'
   go_wp2_with fail
   go_ret
   exact ⟨zez (by rw[HR.out];rfl),ba⟩
theorem zdEz(s:ByteArray)(w:World)(hs:s.size≤1048576)(hT:Lib.Utf8Tabs 12 13 w)(h1:(z5z s).1=s.size)(h2:(z5z s).2.length≤60):
  Calls Tryz.prog 288 #[.string s] w fun e w'=>e=.returned (.tuple #[.string ⟨(xn++b8 (zzz ((z5z s).2.map Int.toNat))).toArray⟩,.bool true])∧Below w.heap.size w w':=by
 have CR:Hid (Calls Tryz.prog 291 #[.string s] w fun e w'=>zaEz s w e w'):=zhCz s w hs hT
 have HA:Hid (zcZz (z5z s).2):=zbVz s h1
 have HL:Hid ((z5z s).2.length≤1048576):=by have:=ziLz s;show _≤_;omega
 have HE:Hid (jQz (z5z s).2=.tuple #[.string ⟨(b8 (zzz ((z5z s).2.map Int.toNat))).toArray⟩,.bool true]):=if_pos h2
 have HX:Hid ((⟨#[120,110,45,45]⟩:ByteArray)++⟨(b8 (zzz ((z5z s).2.map Int.toNat))).toArray⟩=⟨(xn++b8 (zzz ((z5z s).2.map Int.toNat))).toArray⟩):=by
  show _=_
  apply ByteArray.ext
  rw[ByteArray.data_append]
  apply Array.toList_inj.1
  simp[xn]
 have hz:(⟨(b8 (zzz ((z5z s).2.map Int.toNat))).toArray⟩:ByteArray).size≤600:=by
  show (b8 (zzz ((z5z s).2.map Int.toNat))).toArray.size≤600
  rw[List.size_toArray,zbPz]
  exact zc7z (zaFz HA.out h2)
 obtain ⟨T,hTT⟩: ∃T:ByteArray,⟨(b8 (zzz ((z5z s).2.map Int.toNat))).toArray⟩=T:=⟨_,rfl⟩
 rw[hTT]at HE HX hz
 clear hT h2 hTT
 go_enter Tryz.func288,Tryz.ntmps288
 go_wp2_with fail
 refine CR.out.mono ?_
 rintro e wa (⟨_,va,rfl,oa,ba⟩|⟨hn,_⟩)
 ·go_wp2_with fail
  refine (zdDz _ _ _ _ HA.out HL.out oa).mono ?_
  rintro e wb ⟨rfl,bb⟩
  rw[HE.out]
  have B:=ba.trans (bb.mono ba.size)
  clear oa ba bb CR
  go_wp2_with fail
  go_ret2
  refine ⟨?_,B⟩
  rw[←HX.out]
  rfl
 exact absurd h1 hn
theorem zd9z(s:ByteArray)(w:World)(hs:s.size≤1048576)(hT:Lib.Utf8Tabs 12 13 w)(h: ¬((z5z s).1=s.size∧(z5z s).2.length≤60)):
  Calls Tryz.prog 288 #[.string s] w fun e w'=>(∃t:ByteArray,e=.returned (.tuple #[.string t,.bool false]))∧Below w.heap.size w w':=by
 have CR:Hid (Calls Tryz.prog 291 #[.string s] w fun e w'=>zaEz s w e w'):=zhCz s w hs hT
 have HA:Hid ((z5z s).1=s.size→zcZz (z5z s).2):=fun h1=>zbVz s h1
 have HL:Hid ((z5z s).2.length≤1048576):=by have:=ziLz s;show _≤_;omega
 have HE:Hid ((z5z s).1=s.size→jQz (z5z s).2=.tuple #[.string ⟨#[]⟩,.bool false]):=fun h1=>if_neg (fun h2=>h ⟨h1,h2⟩)
 clear hT h
 go_enter Tryz.func288,Tryz.ntmps288
 go_wp2_with fail
 refine CR.out.mono ?_
 rintro e wa (⟨h1,va,rfl,oa,ba⟩|⟨_,va,rfl,_,ba⟩)
 ·go_wp2_with fail
  refine (zdDz _ _ _ _ (HA.out h1) HL.out oa).mono ?_
  rintro e wb ⟨rfl,bb⟩
  rw[HE.out h1]
  have B:=ba.trans (bb.mono ba.size)
  clear oa ba bb CR
  go_wp2_with fail
  go_ret2
  exact ⟨⟨_,rfl⟩,B⟩
 clear CR
 go_wp2_with fail
 go_ret2
 exact ⟨⟨_,rfl⟩,ba⟩
end Go.Proofs.YtgcbaphbiaimoaaGreatDoor
