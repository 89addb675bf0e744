/- DecImpl, RuneAtWalk, RunesWalk, AscBase. -/
import Derived.Test.YtgcbaphbiaimoaaGreatDoorQP24
import Derived.Lib.OthersKept
set_option maxHeartbeats 4000000
set_option maxRecDepth 100000
namespace Go.Proofs.YtgcbaphbiaimoaaGreatDoor
open Go.RowKit Go.Shelf
theorem zgAz(l:List Nat)(v:Value)(B:Nat)(w:World)(hl:l.length≤1048576)(hown:w.ownsRow B 3 1 v l.length (icN l)):
  Calls Tryz.prog 292 #[v] w fun e w'=>e=.returned (.tuple #[.string ⟨(b8 (if yPz l=true then zBz l else [])).toArray⟩,.bool (yPz l)])∧Below w.heap.size w w':=by
 rcases zpz hown with ⟨h0,_,ao,cap,rfl⟩|⟨_,g,cap,rfl⟩
 ·have hl0:l=[]:=List.eq_nil_of_length_eq_zero h0
  subst hl0
  refine (zcWz ao cap w).mono ?_
  rintro e w' ⟨rfl,hb⟩
  exact ⟨rfl,hb⟩
 by_cases hok:yPz l=true
 ·rw[if_pos hok,hok]
  exact zcVz l l.length g cap B w hok rfl hown
 rw[if_neg hok]
 have hf:yPz l=false:=by simpa using hok
 rw[hf]
 exact zdYz (l.map fun (c:Nat)=>(c:Int)) l.length g cap B w (fun h=>hok (zfmz.2 h)) (by simp) hl hown
theorem znHz{s l:List Nat}(h:z9z s=some l):v4z s=some l:=by
 unfold z9z at h
 split at h
 ·next l' hr=>
  split at h
  ·cases h;exact hr
  cases h
 cases h
theorem zoPz:ycz []=none:=rfl
theorem zq4z{s l:List Nat}(h:ycz s=some ([],s.drop 1))(hd:z9z s=some l):False:=by
 obtain ⟨_,he⟩:=(zbcz s l).1 hd
 obtain ⟨p1,p2⟩:=zhxz l
 rw[he]at p1 p2
 have h1:zctz s=[]:=by unfold zctz;rw[h]
 have h2:zdpz s=s.drop 1:=by unfold zdpz;rw[h]
 rw[h1]at p1
 have h3:s=(encV l).map zKz:=by
  rw[←he]
  unfold zBz
  rw[←p1]
  rfl
 rw[←h3,h2]at p2
 have h4:=congrArg List.length p2
 rw[List.length_drop]at h4
 have h5:s=[]:=List.eq_nil_of_length_eq_zero (by omega)
 rw[h5,zoPz]at h
 cases h
theorem zgBz(s:ByteArray)(w:World)(hs600:(s.size:Int)≤600):
  Calls Tryz.prog 295 #[.string s] w fun e w'=>vJz w w' (z9z (sN s)) e∧Below w.heap.size w w':=by
 have hng: ¬600<(s.size:Int):=by omega
 go_enter Tryz.func295,Tryz.ntmps295
 go_wp2_with fail
 refine (zq3z s w hs600).mono ?_
 rintro e w2 ⟨hans,hb⟩
 obtain ⟨R,hR,HD⟩: ∃R:Option (List Nat),xDz w w2 R e∧ ∀l,z9z (sN s)=some l→R=some l:=by
  rcases hans with ⟨k,hk,hks,hsp,hr⟩|⟨hsp|hsp,hr⟩
  ·refine ⟨_,hr,fun l hl=> ?_⟩
   have h1:=znHz hl
   unfold v4z zctz zdpz at h1
   rw[hsp,zOz]at h1
   simp only at h1
   rw[List.length_take,zOz,Nat.min_eq_left (by omega)]at h1
   exact zjkz k _ _ _ _ _ _ l (by decide) h1
  ·refine ⟨_,hr,fun l hl=> ?_⟩
   have h1:=znHz hl
   unfold v4z zctz zdpz at h1
   rw[hsp,zOz]at h1
   exact zjkz 0 _ _ _ _ _ _ l (by decide) h1
  exact ⟨_,hr,fun l hl=>(zq4z hsp hl).elim⟩
 have HDD:Hid (∀l,z9z (sN s)=some l→R=some l):=HD
 have HB:Hid (Below w.heap.size w w2):=hb
 have hsz:=hb.size
 clear hans HD hb
 rcases hR with ⟨hno,rfl⟩|⟨l,v,hyes,hl6,rfl,hown⟩
 ·have HN:Hid (z9z (sN s)=none):=by
   show _=_
   cases hd:z9z (sN s)with
   |none=>rfl
   |some l=>have:=HDD.out l hd;rw[hno]at this;cases this
  have HZ:Hid ((w2.alloc (.cells #[] 3)).ownsRow w.heap.size 3 1 (.slice (some ⟨w2.heap.size,0,none⟩) 0 0) 0 []):=World.ownsRow_lit w2 #[] 0 hsz (by decide) rfl
  clear hno
  go_wp2_with fail
  go_ret2
  exact ⟨zMz HN.out HZ.out rfl,HB.out.alloc hsz _⟩
 have CE:Hid (CB 292 #[v] w2 (.tuple #[.string ⟨(b8 (if yPz l=true then zBz l else [])).toArray⟩,.bool (yPz l)])):=zgAz l v w.heap.size w2 (by omega) hown
 have HOW:Hid (w2.ownsRow w.heap.size 3 1 v l.length (icN l)):=hown
 have HAL:Hid (∀l',z9z (sN s)=some l'→l'=l):=fun l' h=>by
  have:=HDD.out l' h
  rw[hyes]at this
  injection this with this
  exact this.symm
 clear hyes HDD
 obtain ⟨ao,cp,hu⟩:=xWz hown
 subst hu
 clear hown
 by_cases hok:yPz l=true
 ·rw[if_pos hok,hok]at CE
  by_cases heq:zBz l=sN s
  ·have HY:Hid (z9z (sN s)=some l):=(zbcz _ _).2 ⟨hok,heq⟩
   have hst:=zlAz ((zhHz s (zBz l) (fun c hc=>by have:=jEz c hc;omega)).2 heq)
   generalize (⟨(b8 (zBz l)).toArray⟩:ByteArray)=t at CE hst
   clear hok heq
   go_wp2_with fail
   refine CE.out.mono ?_
   rintro e w3 ⟨rfl,hb3⟩
   have HO3:Hid (w3.ownsRow w.heap.size 3 1 (.slice ao l.length cp) l.length (icN l)):=zjz HOW.out hb3
   have HB3:Hid (Below w.heap.size w w3):=HB.out.trans (hb3.mono hsz)
   clear hb3
   go_wp2_with fail
   go_ret2
   exact ⟨v6z HY.out HO3.out rfl,HB3.out⟩
  have HN:Hid (z9z (sN s)=none):=by
   show _=_
   cases hd:z9z (sN s)with
   |none=>rfl
   |some l'=>
    have h1:=HAL.out l' hd
    rw[h1]at hd
    exact absurd ((zbcz _ _).1 hd).2 heq
  have hst:=za5z (fun h=>heq ((zhHz s (zBz l) (fun c hc=>by have:=jEz c hc;omega)).1 h))
  generalize (⟨(b8 (zBz l)).toArray⟩:ByteArray)=t at CE hst
  clear hok heq
  go_wp2_with fail
  refine CE.out.mono ?_
  rintro e w3 ⟨rfl,hb3⟩
  have hsz3:w.heap.size≤w3.heap.size:=Nat.le_trans hsz hb3.size
  have HB3:Hid (Below w.heap.size w w3):=HB.out.trans (hb3.mono hsz)
  have HZ:Hid ((w3.alloc (.cells #[] 3)).ownsRow w.heap.size 3 1 (.slice (some ⟨w3.heap.size,0,none⟩) 0 0) 0 []):=World.ownsRow_lit w3 #[] 0 hsz3 (by decide) rfl
  clear hb3
  go_wp2_with fail
  go_ret2
  exact ⟨zMz HN.out HZ.out rfl,HB3.out.alloc hsz3 _⟩
 have HN:Hid (z9z (sN s)=none):=by
  show _=_
  cases hd:z9z (sN s)with
  |none=>rfl
  |some l'=>
   have h1:=HAL.out l' hd
   rw[h1]at hd
   exact absurd ((zbcz _ _).1 hd).1 hok
 rw[if_neg hok,show yPz l=false by simpa using hok]at CE
 generalize (⟨(b8 []).toArray⟩:ByteArray)=t at CE
 clear hok
 go_wp2_with fail
 refine CE.out.mono ?_
 rintro e w3 ⟨rfl,hb3⟩
 have hsz3:w.heap.size≤w3.heap.size:=Nat.le_trans hsz hb3.size
 have HB3:Hid (Below w.heap.size w w3):=HB.out.trans (hb3.mono hsz)
 have HZ:Hid ((w3.alloc (.cells #[] 3)).ownsRow w.heap.size 3 1 (.slice (some ⟨w3.heap.size,0,none⟩) 0 0) 0 []):=World.ownsRow_lit w3 #[] 0 hsz3 (by decide) rfl
 clear hb3
 go_wp2_with fail
 go_ret2
 exact ⟨zMz HN.out HZ.out rfl,HB3.out.alloc hsz3 _⟩
theorem zcYz(s:ByteArray)(w:World)(hs:600<(s.size:Int)):
  Calls Tryz.prog 295 #[.string s] w fun e w'=>vJz w w' none e∧Below w.heap.size w w':=by
 go_enter Tryz.func295,Tryz.ntmps295
 go_wp2
 go_ret2
 exact ⟨zMz rfl (World.ownsRow_lit w #[] 0 (Nat.le_refl _) (by decide) rfl) rfl,(Below.refl _ _).alloc (Nat.le_refl _) _⟩
end Go.Proofs.YtgcbaphbiaimoaaGreatDoor
namespace Go.Proofs.YtgcbaphbiaimoaaGreatDoor
open Go.RowKit
def xFz(s:ByteArray)(p:Nat)(r0:Int):Nat→Int
 |0=>r0
 |m+1=>xFz s p r0 m*64+(bt s (p+(m+1)):Int)%64
theorem zcZz(s:ByteArray)(p:Nat)(r0:Int)(h0:0≤r0)(h1:r0<32): ∀m,m≤3→0≤xFz s p r0 m∧xFz s p r0 m<8388608
 |0,_=>by simp only[xFz];omega
 |1,_=>by simp only[xFz];omega
 |2,_=>by simp only[xFz];omega
 |3,_=>by simp only[xFz];omega
theorem zk4z(s:ByteArray)(p c:Nat)(w:World)(hp:p<s.size)(hs:s.size≤1099511627776)(hc:s[p].toNat=c)(hb1:194≤c)(hb2:c≤223):
  Calls Tryz.prog 225 #[.string s,.int .i64 (p:Int)] w fun e w'=>e=.returned (.tuple #[.int .i64 (zNz s p).1,.int .i64 (zNz s p).2])∧Below w.heap.size w w':=by
 have e0:bits .and .i64 (c:Int) 31=(c:Int)%32:=znXz _ (by omega) (by omega)
 have hbt:bt s p=c:=by rw[zcrz s p hp,hc]
 have HBT:Hid (bt s p=c):=hbt
 clear hbt
 by_cases hshort:p+2≤s.size
 ·have hsh: ¬((s.size:Int)<(p:Int)+2):=by omega
  go_enter Tryz.func225,Tryz.ntmps225
  go_wp2_with fail
  refine (zfz _ 194 223 _ (by omega) (by omega)).mono ?_
  rintro e w' ⟨rfl,rfl⟩
  go_wp2_with fail
  clear e0
  go_loop[8,9] (fun r i=> ∃m:Nat,m≤1∧i=.int .i64 ((m:Int)+1)∧r=.int .i64 (xFz s p ((c:Int)%32) m)∧ ∀j,j<m→128≤bt s (p+(j+1))∧bt s (p+(j+1))≤191) (fun _ i=>3-(intOf i).toNat)
  case atStart=>exact ⟨0,by omega,rfl,rfl,fun j h=>by omega⟩
  obtain ⟨m,hm,rfl,rfl,hall⟩:=hrel
  have HA:Hid (∀j,j<m→128≤bt s (p+(j+1))∧bt s (p+(j+1))≤191):=hall
  clear hall
  have hab:=zcZz s p ((c:Int)%32) (by omega) (by omega) m (by omega)
  by_cases hlt:m<1
  ·have hq:p+(m+1)<s.size:=by omega
   obtain ⟨d,hd⟩: ∃d:Nat,s[p+(m+1)].toNat=d:=⟨_,rfl⟩
   have hd255:d≤255:=by have:=s[p+(m+1)].toNat_lt;omega
   have HD:Hid (bt s (p+(m+1))=d):=by show _=_;rw[zcrz s _ hq,hd]
   have HN:Hid (xFz s p ((c:Int)%32) (m+1)=xFz s p ((c:Int)%32) m*64+(d:Int)%64):=by show _=_;rw[xFz,HD.out]
   generalize xFz s p ((c:Int)%32) m=a at hab HN⊢
   obtain ⟨ha0,ha1⟩:=hab
   have e1:bits .and .i64 (d:Int) 63=(d:Int)%64:=zefz _ (by omega) (by omega)
   have e2:bits .or .i64 (a*64) ((d:Int)%64)=a*64+(d:Int)%64:=x4z 6 _ _ (by omega) (by omega) (by omega) (by omega) (by omega) (by omega)
   by_cases hg:128≤d∧d≤191
   ·obtain ⟨hg1,hg2⟩:=hg
    go_wp2_with fail
    refine (zfz _ 128 191 _ (by omega) (by omega)).mono ?_
    rintro e w' ⟨rfl,rfl⟩
    go_wp2_with fail
    go_round
    case rel=>
     refine ⟨m+1,by omega,by go_num,by rw[HN.out],fun j hj=> ?_⟩
     by_cases e:j=m
     ·subst e;rw[HD.out];exact ⟨hg1,hg2⟩
     exact HA.out j (by omega)
    case measure=>simp[intOf];omega
   have HG:Hid (((d:Int)<128)∨(191:Int)<(d:Int)):=by show _∨_;omega
   have hR:=zhuz s p (by rw[HBT.out];omega) (by
    intro hh
    have:=HD.out
    have hg':=hg
    obtain rfl:m=0:=by omega
    all_goals (simp only[Nat.zero_add]at this;omega))
   have HR:Hid (zNz s p=(0,0)):=hR
   clear hg hR
   go_wp2_with fail
   refine (zlz _ 128 191 _ HG.out).mono ?_
   rintro e w' ⟨rfl,rfl⟩
   go_wp2_with fail
   go_ret2
   exact ⟨by rw[HR.out];rfl,Below.refl _ _⟩
  have hme:m=1:=by omega
  subst hme
  clear hm hlt
  have hr:xFz s p ((c:Int)%32) 1=(bt s p:Int)%32*64+(bt s (p+1):Int)%64:=by
   rw[HBT.out]
   simp only[xFz,Nat.zero_add]
  have hR:=rune2 s p (by rw[HBT.out];omega) ⟨by omega,(HA.out 0 (by omega)).1,(HA.out 0 (by omega)).2⟩
  rw[←hr]at hR
  have hlo:128≤xFz s p ((c:Int)%32) 1:=by rw[hr,HBT.out];omega
  have hhi:xFz s p ((c:Int)%32) 1≤2047:=by rw[hr,HBT.out];omega
  generalize xFz s p ((c:Int)%32) 1=r at hR hlo hhi⊢
  have HR:Hid (zNz s p=(r,2)):=hR
  clear hR hr hab
  go_wp2_with fail
  refine (yFz r _ ⟨by omega,by omega,by omega⟩).mono ?_
  rintro e w' ⟨rfl,rfl⟩
  go_wp2_with fail
  go_ret2
  exact ⟨by rw[HR.out];rfl,(Below.refl _ _).alloc (Nat.le_refl _) _⟩
 have hR:=zhuz s p (by rw[HBT.out];omega) (by omega)
 have HR:Hid (zNz s p=(0,0)):=hR
 clear hR
 go_enter Tryz.func225,Tryz.ntmps225
 go_wp2_with fail
 refine (zfz _ 194 223 _ (by omega) (by omega)).mono ?_
 rintro e w' ⟨rfl,rfl⟩
 go_wp2_with fail
 go_ret2
 exact ⟨by rw[HR.out];rfl,Below.refl _ _⟩
theorem zk5z(s:ByteArray)(p c:Nat)(w:World)(hp:p<s.size)(hs:s.size≤1099511627776)(hc:s[p].toNat=c)(hb1:224≤c)(hb2:c≤239):
  Calls Tryz.prog 225 #[.string s,.int .i64 (p:Int)] w fun e w'=>e=.returned (.tuple #[.int .i64 (zNz s p).1,.int .i64 (zNz s p).2])∧Below w.heap.size w w':=by
 have e0:bits .and .i64 (c:Int) 15=(c:Int)%16:=znYz _ (by omega) (by omega)
 have hbt:bt s p=c:=by rw[zcrz s p hp,hc]
 have HBT:Hid (bt s p=c):=hbt
 clear hbt
 by_cases hshort:p+3≤s.size
 ·have hsh: ¬((s.size:Int)<(p:Int)+3):=by omega
  go_enter Tryz.func225,Tryz.ntmps225
  go_wp2_with fail
  refine (zlz _ 194 223 _ (.inr (by omega))).mono ?_
  rintro e w' ⟨rfl,rfl⟩
  go_wp2_with fail
  refine (zfz _ 224 239 _ (by omega) (by omega)).mono ?_
  rintro e w' ⟨rfl,rfl⟩
  go_wp2_with fail
  clear e0
  go_loop[8,9] (fun r i=> ∃m:Nat,m≤2∧i=.int .i64 ((m:Int)+1)∧r=.int .i64 (xFz s p ((c:Int)%16) m)∧ ∀j,j<m→128≤bt s (p+(j+1))∧bt s (p+(j+1))≤191) (fun _ i=>4-(intOf i).toNat)
  case atStart=>exact ⟨0,by omega,rfl,rfl,fun j h=>by omega⟩
  obtain ⟨m,hm,rfl,rfl,hall⟩:=hrel
  have HA:Hid (∀j,j<m→128≤bt s (p+(j+1))∧bt s (p+(j+1))≤191):=hall
  clear hall
  have hab:=zcZz s p ((c:Int)%16) (by omega) (by omega) m (by omega)
  by_cases hlt:m<2
  ·have hq:p+(m+1)<s.size:=by omega
   obtain ⟨d,hd⟩: ∃d:Nat,s[p+(m+1)].toNat=d:=⟨_,rfl⟩
   have hd255:d≤255:=by have:=s[p+(m+1)].toNat_lt;omega
   have HD:Hid (bt s (p+(m+1))=d):=by show _=_;rw[zcrz s _ hq,hd]
   have HN:Hid (xFz s p ((c:Int)%16) (m+1)=xFz s p ((c:Int)%16) m*64+(d:Int)%64):=by show _=_;rw[xFz,HD.out]
   generalize xFz s p ((c:Int)%16) m=a at hab HN⊢
   obtain ⟨ha0,ha1⟩:=hab
   have e1:bits .and .i64 (d:Int) 63=(d:Int)%64:=zefz _ (by omega) (by omega)
   have e2:bits .or .i64 (a*64) ((d:Int)%64)=a*64+(d:Int)%64:=x4z 6 _ _ (by omega) (by omega) (by omega) (by omega) (by omega) (by omega)
   by_cases hg:128≤d∧d≤191
   ·obtain ⟨hg1,hg2⟩:=hg
    go_wp2_with fail
    refine (zfz _ 128 191 _ (by omega) (by omega)).mono ?_
    rintro e w' ⟨rfl,rfl⟩
    go_wp2_with fail
    go_round
    case rel=>
     refine ⟨m+1,by omega,by go_num,by rw[HN.out],fun j hj=> ?_⟩
     by_cases e:j=m
     ·subst e;rw[HD.out];exact ⟨hg1,hg2⟩
     exact HA.out j (by omega)
    case measure=>simp[intOf];omega
   have HG:Hid (((d:Int)<128)∨(191:Int)<(d:Int)):=by show _∨_;omega
   have hR:=zhvz s p (by rw[HBT.out];omega) (by
    intro hh
    have:=HD.out
    have hg':=hg
    rcases (show m=0∨m=1 by omega)with rfl|rfl
    all_goals (simp only[Nat.zero_add,Nat.reduceAdd]at this;omega))
   have HR:Hid (zNz s p=(0,0)):=hR
   clear hg hR
   go_wp2_with fail
   refine (zlz _ 128 191 _ HG.out).mono ?_
   rintro e w' ⟨rfl,rfl⟩
   go_wp2_with fail
   go_ret2
   exact ⟨by rw[HR.out];rfl,Below.refl _ _⟩
  have hme:m=2:=by omega
  subst hme
  clear hm hlt
  have hr:xFz s p ((c:Int)%16) 2=(bt s p:Int)%16*4096+(bt s (p+1):Int)%64*64+(bt s (p+2):Int)%64:=by
   rw[HBT.out]
   simp only[xFz,Nat.zero_add,Nat.reduceAdd]
   omega
  have hR:=rune3 s p (xFz s p ((c:Int)%16) 2) (by rw[HBT.out];omega) ⟨by omega,(HA.out 0 (by omega)).1,(HA.out 0 (by omega)).2,by omega,(HA.out 1 (by omega)).1,(HA.out 1 (by omega)).2⟩ hr
  have hhi:xFz s p ((c:Int)%16) 2≤65535:=by rw[hr,HBT.out];omega
  generalize xFz s p ((c:Int)%16) 2=r at hR hab hhi⊢
  obtain ⟨ha0,ha1⟩:=hab
  clear hr
  by_cases hl:r<2048
  ·rw[if_pos (.inl hl)]at hR
   have HR:Hid (zNz s p=(0,0)):=hR
   clear hR
   go_wp2_with fail
   go_ret2
   exact ⟨by rw[HR.out];rfl,(Below.refl _ _).alloc (Nat.le_refl _) _⟩
  by_cases hg: ¬(r<55296∨57343<r)
  ·rw[if_pos (.inr hg)]at hR
   have HR:Hid (zNz s p=(0,0)):=hR
   have HG:Hid (¬ytz r):=by show ¬_;unfold ytz;omega
   clear hR hg
   go_wp2_with fail
   refine (jfz r _ HG.out).mono ?_
   rintro e w' ⟨rfl,rfl⟩
   go_wp2_with fail
   go_ret2
   exact ⟨by rw[HR.out];rfl,(Below.refl _ _).alloc (Nat.le_refl _) _⟩
  rw[if_neg (by omega)]at hR
  have HR:Hid (zNz s p=(r,3)):=hR
  have HG:Hid (ytz r):=by show ytz r;unfold ytz;omega
  clear hR hg
  go_wp2_with fail
  refine (yFz r _ HG.out).mono ?_
  rintro e w' ⟨rfl,rfl⟩
  go_wp2_with fail
  go_ret2
  exact ⟨by rw[HR.out];rfl,(Below.refl _ _).alloc (Nat.le_refl _) _⟩
 have hR:=zhvz s p (by rw[HBT.out];omega) (by omega)
 have HR:Hid (zNz s p=(0,0)):=hR
 clear hR
 go_enter Tryz.func225,Tryz.ntmps225
 go_wp2_with fail
 refine (zlz _ 194 223 _ (.inr (by omega))).mono ?_
 rintro e w' ⟨rfl,rfl⟩
 go_wp2_with fail
 refine (zfz _ 224 239 _ (by omega) (by omega)).mono ?_
 rintro e w' ⟨rfl,rfl⟩
 go_wp2_with fail
 go_ret2
 exact ⟨by rw[HR.out];rfl,Below.refl _ _⟩
theorem zk6z(s:ByteArray)(p c:Nat)(w:World)(hp:p<s.size)(hs:s.size≤1099511627776)(hc:s[p].toNat=c)(hb1:240≤c)(hb2:c≤244):
  Calls Tryz.prog 225 #[.string s,.int .i64 (p:Int)] w fun e w'=>e=.returned (.tuple #[.int .i64 (zNz s p).1,.int .i64 (zNz s p).2])∧Below w.heap.size w w':=by
 have e0:bits .and .i64 (c:Int) 7=(c:Int)%8:=zprz _ (by omega) (by omega)
 have hbt:bt s p=c:=by rw[zcrz s p hp,hc]
 have HBT:Hid (bt s p=c):=hbt
 clear hbt
 by_cases hshort:p+4≤s.size
 ·have hsh: ¬((s.size:Int)<(p:Int)+4):=by omega
  go_enter Tryz.func225,Tryz.ntmps225
  go_wp2_with fail
  refine (zlz _ 194 223 _ (.inr (by omega))).mono ?_
  rintro e w' ⟨rfl,rfl⟩
  go_wp2_with fail
  refine (zlz _ 224 239 _ (.inr (by omega))).mono ?_
  rintro e w' ⟨rfl,rfl⟩
  go_wp2_with fail
  refine (zfz _ 240 244 _ (by omega) (by omega)).mono ?_
  rintro e w' ⟨rfl,rfl⟩
  go_wp2_with fail
  clear e0
  go_loop[8,9] (fun r i=> ∃m:Nat,m≤3∧i=.int .i64 ((m:Int)+1)∧r=.int .i64 (xFz s p ((c:Int)%8) m)∧ ∀j,j<m→128≤bt s (p+(j+1))∧bt s (p+(j+1))≤191) (fun _ i=>5-(intOf i).toNat)
  case atStart=>exact ⟨0,by omega,rfl,rfl,fun j h=>by omega⟩
  obtain ⟨m,hm,rfl,rfl,hall⟩:=hrel
  have HA:Hid (∀j,j<m→128≤bt s (p+(j+1))∧bt s (p+(j+1))≤191):=hall
  clear hall
  have hab:=zcZz s p ((c:Int)%8) (by omega) (by omega) m (by omega)
  by_cases hlt:m<3
  ·have hq:p+(m+1)<s.size:=by omega
   obtain ⟨d,hd⟩: ∃d:Nat,s[p+(m+1)].toNat=d:=⟨_,rfl⟩
   have hd255:d≤255:=by have:=s[p+(m+1)].toNat_lt;omega
   have HD:Hid (bt s (p+(m+1))=d):=by show _=_;rw[zcrz s _ hq,hd]
   have HN:Hid (xFz s p ((c:Int)%8) (m+1)=xFz s p ((c:Int)%8) m*64+(d:Int)%64):=by show _=_;rw[xFz,HD.out]
   generalize xFz s p ((c:Int)%8) m=a at hab HN⊢
   obtain ⟨ha0,ha1⟩:=hab
   have e1:bits .and .i64 (d:Int) 63=(d:Int)%64:=zefz _ (by omega) (by omega)
   have e2:bits .or .i64 (a*64) ((d:Int)%64)=a*64+(d:Int)%64:=x4z 6 _ _ (by omega) (by omega) (by omega) (by omega) (by omega) (by omega)
   by_cases hg:128≤d∧d≤191
   ·obtain ⟨hg1,hg2⟩:=hg
    go_wp2_with fail
    refine (zfz _ 128 191 _ (by omega) (by omega)).mono ?_
    rintro e w' ⟨rfl,rfl⟩
    go_wp2_with fail
    go_round
    case rel=>
     refine ⟨m+1,by omega,by go_num,by rw[HN.out],fun j hj=> ?_⟩
     by_cases e:j=m
     ·subst e;rw[HD.out];exact ⟨hg1,hg2⟩
     exact HA.out j (by omega)
    case measure=>simp[intOf];omega
   have HG:Hid (((d:Int)<128)∨(191:Int)<(d:Int)):=by show _∨_;omega
   have hR:=zhwz s p (by rw[HBT.out];omega) (by
    intro hh
    have:=HD.out
    have hg':=hg
    rcases (show m=0∨m=1∨m=2 by omega)with rfl|rfl|rfl
    all_goals (simp only[Nat.zero_add,Nat.reduceAdd]at this;omega))
   have HR:Hid (zNz s p=(0,0)):=hR
   clear hg hR
   go_wp2_with fail
   refine (zlz _ 128 191 _ HG.out).mono ?_
   rintro e w' ⟨rfl,rfl⟩
   go_wp2_with fail
   go_ret2
   exact ⟨by rw[HR.out];rfl,Below.refl _ _⟩
  have hme:m=3:=by omega
  subst hme
  clear hm hlt
  have hr:xFz s p ((c:Int)%8) 3=(bt s p:Int)%8*262144+(bt s (p+1):Int)%64*4096+(bt s (p+2):Int)%64*64+(bt s (p+3):Int)%64:=by
   rw[HBT.out]
   simp only[xFz,Nat.zero_add,Nat.reduceAdd]
   omega
  have hR:=rune4 s p (xFz s p ((c:Int)%8) 3) (by rw[HBT.out];omega) ⟨by omega,(HA.out 0 (by omega)).1,(HA.out 0 (by omega)).2,by omega,(HA.out 1 (by omega)).1,(HA.out 1 (by omega)).2,by omega,(HA.out 2 (by omega)).1,(HA.out 2 (by omega)).2⟩ hr
  have hhi:xFz s p ((c:Int)%8) 3≤2097151:=by rw[hr,HBT.out];omega
  generalize xFz s p ((c:Int)%8) 3=r at hR hab hhi⊢
  obtain ⟨ha0,ha1⟩:=hab
  clear hr
  by_cases hl:r<65536
  ·rw[if_pos (.inl hl)]at hR
   have HR:Hid (zNz s p=(0,0)):=hR
   clear hR
   go_wp2_with fail
   go_ret2
   exact ⟨by rw[HR.out];rfl,(Below.refl _ _).alloc (Nat.le_refl _) _⟩
  by_cases hg: ¬r≤1114111
  ·rw[if_pos (.inr hg)]at hR
   have HR:Hid (zNz s p=(0,0)):=hR
   have HG:Hid (¬ytz r):=by show ¬_;unfold ytz;omega
   clear hR hg
   go_wp2_with fail
   refine (jfz r _ HG.out).mono ?_
   rintro e w' ⟨rfl,rfl⟩
   go_wp2_with fail
   go_ret2
   exact ⟨by rw[HR.out];rfl,(Below.refl _ _).alloc (Nat.le_refl _) _⟩
  rw[if_neg (by omega)]at hR
  have HR:Hid (zNz s p=(r,4)):=hR
  have HG:Hid (ytz r):=by show ytz r;unfold ytz;omega
  clear hR hg
  go_wp2_with fail
  refine (yFz r _ HG.out).mono ?_
  rintro e w' ⟨rfl,rfl⟩
  go_wp2_with fail
  go_ret2
  exact ⟨by rw[HR.out];rfl,(Below.refl _ _).alloc (Nat.le_refl _) _⟩
 have hR:=zhwz s p (by rw[HBT.out];omega) (by omega)
 have HR:Hid (zNz s p=(0,0)):=hR
 clear hR
 go_enter Tryz.func225,Tryz.ntmps225
 go_wp2_with fail
 refine (zlz _ 194 223 _ (.inr (by omega))).mono ?_
 rintro e w' ⟨rfl,rfl⟩
 go_wp2_with fail
 refine (zlz _ 224 239 _ (.inr (by omega))).mono ?_
 rintro e w' ⟨rfl,rfl⟩
 go_wp2_with fail
 refine (zfz _ 240 244 _ (by omega) (by omega)).mono ?_
 rintro e w' ⟨rfl,rfl⟩
 go_wp2_with fail
 go_ret2
 exact ⟨by rw[HR.out];rfl,Below.refl _ _⟩
theorem zk7z(s:ByteArray)(p c:Nat)(w:World)(hp:p<s.size)(_hs:s.size≤1099511627776)(hc:s[p].toNat=c)(hb:c<128):
  Calls Tryz.prog 225 #[.string s,.int .i64 (p:Int)] w fun e w'=>e=.returned (.tuple #[.int .i64 (zNz s p).1,.int .i64 (zNz s p).2])∧Below w.heap.size w w':=by
 have hR:=rune1 s p (by rw[zcrz s p hp,hc];omega)
 rw[zcrz s p hp,hc]at hR
 have HR:Hid (zNz s p=((c:Int),1)):=hR
 clear hR
 go_enter Tryz.func225,Tryz.ntmps225
 go_wp2_with fail
 go_ret2
 exact ⟨by rw[HR.out];rfl,Below.refl _ _⟩
theorem zk8z(s:ByteArray)(p c:Nat)(w:World)(hp:p<s.size)(_hs:s.size≤1099511627776)(hc:s[p].toNat=c)(hb:128≤c)(hb2:c<194∨244<c):
  Calls Tryz.prog 225 #[.string s,.int .i64 (p:Int)] w fun e w'=>e=.returned (.tuple #[.int .i64 (zNz s p).1,.int .i64 (zNz s p).2])∧Below w.heap.size w w':=by
 have hR:=rune0 s p (by rw[zcrz s p hp,hc];omega) (by rw[zcrz s p hp,hc];omega)
 have HR:Hid (zNz s p=(0,0)):=hR
 have h255:c≤255:=by have:=s[p].toNat_lt;omega
 have HB:Hid (c<194∨244<c):=hb2
 clear hR hb2
 go_enter Tryz.func225,Tryz.ntmps225
 go_wp2_with fail
 refine (zlz _ 194 223 _ (by have:=HB.out;omega)).mono ?_
 rintro e w' ⟨rfl,rfl⟩
 go_wp2_with fail
 refine (zlz _ 224 239 _ (by have:=HB.out;omega)).mono ?_
 rintro e w' ⟨rfl,rfl⟩
 go_wp2_with fail
 refine (zlz _ 240 244 _ (by have:=HB.out;omega)).mono ?_
 rintro e w' ⟨rfl,rfl⟩
 go_wp2_with fail
 go_ret2
 exact ⟨by rw[HR.out];rfl,Below.refl _ _⟩
theorem zgCz(s:ByteArray)(p:Nat)(w:World)(hp:p<s.size)(hs:s.size≤1099511627776):
  Calls Tryz.prog 225 #[.string s,.int .i64 (p:Int)] w fun e w'=>e=.returned (.tuple #[.int .i64 (zNz s p).1,.int .i64 (zNz s p).2])∧Below w.heap.size w w':=by
 by_cases h1:s[p].toNat<128
 ·exact zk7z s p _ w hp hs rfl h1
 by_cases h2:194≤s[p].toNat∧s[p].toNat≤223
 ·exact zk4z s p _ w hp hs rfl h2.1 h2.2
 by_cases h3:224≤s[p].toNat∧s[p].toNat≤239
 ·exact zk5z s p _ w hp hs rfl h3.1 h3.2
 by_cases h4:240≤s[p].toNat∧s[p].toNat≤244
 ·exact zk6z s p _ w hp hs rfl h4.1 h4.2
 exact zk8z s p _ w hp hs rfl (by omega) (by omega)
theorem znIz(x:Int): ∀u∈ #[Value.int .i64 x].toList,u.oneCell'=true:=by
 intro u hu;simp at hu;subst hu;rfl
def zaVz(s:ByteArray)(w:World)(e:Ending)(w':World):Prop:=
 ((z2z s).1=s.size∧ ∃v,e=.returned (.tuple #[v,.bool true])∧w'.ownsRow w.heap.size 3 1 v (z2z s).2.length (zkz (z2z s).2)∧Below w.heap.size w w')∨
 ((z2z s).1≠s.size∧ ∃v,e=.returned (.tuple #[v,.bool false])∧w'.ownsRow w.heap.size 3 1 v 0 (zkz [])∧Below w.heap.size w w')
theorem zgDz(s:ByteArray)(k:Nat)(h1:(stR s k).1<s.size)(h2:okAt s (stR s k).1){w1:World}{B:Nat}{v:Value}{e:TypeId}{x:Int}(hx:x=((Utf8.decode s (stR s k).1).1:Int))
  (hown:w1.ownsRow B e 1 v ((stR s k).2.length+1) (zkz (stR s k).2++[.int .i64 x])):
  w1.ownsRow B e 1 v (stR s (k+1)).2.length (zkz (stR s (k+1)).2):=by
 subst hx
 rw[zdnz s k h1 h2]
 simp only
 rw[vZz,List.length_append]
 exact hown
theorem zdZz{w:World}{B:Nat}{e:TypeId}{size:Nat}{v:Value}{n:Nat}{xs:List Value}{K:Nat}{s:ByteArray}{p:Nat}(h:w.ownsRow B e size v n xs)(hk:w.heap[K]? =some (.stringIter s p)):some K≠v.ownBlock:=by
 intro hx
 rcases h.2 with ⟨rfl,_⟩|⟨g,cap,cur,rfl,_,hg,_⟩
 ·simp[Value.ownBlock]at hx
 simp[Value.ownBlock]at hx
 subst hx
 rw[hk]at hg
 simp at hg
theorem zmhz{w:World}{B:Nat}{e:TypeId}{size:Nat}{v:Value}{n:Nat}{xs:List Value}{K:Nat}{s:ByteArray}{p:Nat}(h:w.ownsRow B e size v n xs)(hk:w.heap[K]? =some (.stringIter s p))(p':Nat):(w.iterAt K s p').ownsRow B e size v n xs:=by
 have hne:=zdZz h hk
 refine ⟨h.1,?_⟩
 rcases h.2 with hn|⟨g,cap,cur,rfl,hb,hg,rest⟩
 ·exact .inl hn
 refine .inr ⟨g,cap,cur,rfl,hb,?_,rest⟩
 have hgk:g≠K:=by
  intro e
  subst e
  simp[Value.ownBlock]at hne
 rw[Lib.iterAt_other w K g s p' hgk]
 exact hg
theorem zoQz(s:ByteArray)(w:World)(hs:s.size≤1048576):
  Calls Tryz.prog 188 #[.string s] w fun e w'=>zaVz s w e w':=by
 go_enter Tryz.func188,Tryz.ntmps188
 go_wp2
 go_loopw[4,5] (fun v i wr=> ∃k:Nat,i=.int .i64 ((stR s k).1:Int)∧wr.ownsRow w.heap.size 3 1 v (stR s k).2.length (zkz (stR s k).2)∧Below w.heap.size w wr)
  (fun _ i _=>s.size-(intOf i).toNat)
 case atStart=>exact ⟨0,rfl,World.ownsRow_lit w #[] 0 (Nat.le_refl _) (by decide) rfl,(Below.refl _ _).alloc (Nat.le_refl _) _⟩
 obtain ⟨k,rfl,hown,hbel⟩:=hrel
 have hsz:=hbel.size
 have hl:=zjZz s k
 have hle:=ziLz s k
 have HS1:Hid (∀(h1:(stR s k).1<s.size) (h2:okAt s (stR s k).1),(stR s (k+1)).1=(stR s k).1+(Utf8.decode s (stR s k).1).2):=fun h1 h2=>by rw[zdnz s k h1 h2]
 have HST:Hid (¬((stR s k).1<s.size∧okAt s (stR s k).1)→stR s k=z2z s):=fun h=>ziKz s k h
 have HSP:Hid (∀(h1:(stR s k).1<s.size) (h2:okAt s (stR s k).1) (w1:World) (v:Value) (x:Int) (hx:x=((Utf8.decode s (stR s k).1).1:Int)),
  w1.ownsRow w.heap.size 3 1 v ((stR s k).2.length+1) (zkz (stR s k).2++[.int .i64 x])→w1.ownsRow w.heap.size 3 1 v (stR s (k+1)).2.length (zkz (stR s (k+1)).2)):=
  fun h1 h2 w1 v x hx h=>zgDz s k h1 h2 hx h
 have HP:Hid ((stR s k).1=(stR s k).1):=rfl
 by_cases hlt:(stR s k).1<s.size
 ·have hw:=Lib.decode_width_pos s (stR s k).1 hlt
  by_cases hok:okAt s (stR s k).1
  ·have hr:zNz s (stR s k).1=(((Utf8.decode s (stR s k).1).1:Int),((Utf8.decode s (stR s k).1).2:Int)):=by unfold zNz;rw[if_pos hok]
   have hw4:(stR s k).1+(Utf8.decode s (stR s k).1).2≤s.size:=by rw[←HS1.out hlt hok];exact ziLz s (k+1)
   have HOK:Hid (okAt s (stR s k).1):=hok
   have cr:=zgCz s (stR s k).1
   rw[hr]at cr
   have CR:Hid (∀(W:World) (_:(stR s k).1<s.size) (_:s.size≤1099511627776),CB 225 #[.string s,.int .i64 ((stR s k).1:Int)] W (.tuple #[.int .i64 ((Utf8.decode s (stR s k).1).1:Int),.int .i64 ((Utf8.decode s (stR s k).1).2:Int)])):=cr
   clear hok hr cr HST
   have H1:Hid ((stR s (k+1)).1=(stR s k).1+(Utf8.decode s (stR s k).1).2):=HS1.out hlt HOK.out
   have H2:Hid (∀(w1:World) (v:Value),w1.ownsRow w.heap.size 3 1 v ((stR s k).2.length+1) (zkz (stR s k).2++[.int .i64 ((Utf8.decode s (stR s k).1).1:Int)])→w1.ownsRow w.heap.size 3 1 v (stR s (k+1)).2.length (zkz (stR s (k+1)).2)):=
    fun w1 v h=>HSP.out hlt HOK.out w1 v _ rfl h
   clear HS1 HSP HP
   generalize (Utf8.decode s (stR s k).1).1=R at*
   generalize (Utf8.decode s (stR s k).1).2=W at*
   generalize hp:(stR s k).1=p at*
   generalize (stR s k).2=l at*
   have HPP:Hid ((stR s k).1=p):=hp
   clear hp
   have hne:((W:Int)==0)=false:=by simp;omega
   go_wp2_with fail
   refine (CR.out _ hlt (by omega)).mono ?_
   rintro e wc ⟨rfl,hbc⟩
   have hown2:=zjz hown hbc
   have hsc:=hbc.size
   go_wp2_with (at_builtin;refine zbz _ rfl _ _ 95 rfl w.heap.size 3 (.int .i64 0) 8 Tryz.underlying95 Tryz.infoInt rfl _ _ _ rfl hown2 #[.int .i64 (R:Int)] 1 rfl rfl (znIz _) (by omega) (by unfold maxLen;omega) (by omega) ?_)
   intro v' w1 hown' hb1
   have R1:=H2.out w1 v' hown'
   have B1:Below w.heap.size w w1:=(hbel.trans (hbc.mono hsz)).trans hb1
   clear hown' hb1 hown hbel hown2 hbc
   go_wp2
   go_roundw
   case rel=>exact ⟨k+1,by rw[H1.out];go_num,R1,B1⟩
   case measure=>simp[intOf];omega
  have hr:zNz s (stR s k).1=(0,0):=by unfold zNz;rw[if_neg hok]
  have HF:Hid (stR s k=z2z s):=HST.out (fun h=>hok h.2)
  have cr:=zgCz s (stR s k).1
  rw[hr]at cr
  have CR:Hid (∀(W:World) (_:(stR s k).1<s.size) (_:s.size≤1099511627776),CB 225 #[.string s,.int .i64 ((stR s k).1:Int)] W (.tuple #[.int .i64 0,.int .i64 0])):=cr
  clear hok hr cr HST HS1 HSP HP hw
  have HN:Hid ((z2z s).1≠s.size):=by show _≠_;rw[←HF.out];omega
  generalize (stR s k).1=p at*
  clear HF
  go_wp2_with fail
  refine (CR.out _ hlt (by omega)).mono ?_
  rintro e wc ⟨rfl,hbc⟩
  have hsc:=hbc.size
  have B1:Below w.heap.size w (wc.alloc (.cells #[] 3)):=(hbel.trans (hbc.mono hsz)).alloc (by omega) _
  have O1:(wc.alloc (.cells #[] 3)).ownsRow w.heap.size 3 1 (.slice (some ⟨wc.heap.size,0,none⟩) 0 0) 0 (zkz []):=World.ownsRow_lit wc #[] 0 (by omega) (by decide) rfl
  go_wp2
  go_ret2
  exact .inr ⟨HN.out,_,rfl,O1,B1⟩
 have HF:Hid (stR s k=z2z s):=HST.out (fun h=>hlt h.1)
 have HN:Hid ((z2z s).1=s.size):=by show _=_;rw[←HF.out];omega
 have O1:wr.ownsRow w.heap.size 3 1 u4 (z2z s).2.length (zkz (z2z s).2):=by rw[←HF.out];exact hown
 clear HF HST HS1 HSP HP hown
 generalize (stR s k).1=p at*
 go_wp2
 go_ret2
 exact .inl ⟨HN.out,_,rfl,O1,hbel⟩
theorem zigz(s:ByteArray)(w:World)(hs:s.size≤1048576)(hT:Lib.Utf8Tabs 12 13 w):
  Calls Tryz.prog 291 #[.string s] w fun e w'=>zaVz s w e w':=by
 obtain ⟨i0,hi,hz0,hz1,hz2⟩:=info_parts Tryz.infoInt
 have cv:=Any.utf8_ValidString Tryz.lays196 s w (by omega) hT
 have CV:Hid (CB 296 #[.string s] w (.bool (Lib.validD s.data.toList))):=cv
 clear cv hT
 by_cases hv:Lib.validD s.data.toList=true
 ·have HV:Hid (Lib.validD s.data.toList=true):=hv
  have HN:Hid ((z2z s).1=s.size):=(zekz s).1 hv
  have CV2:Hid (CB 296 #[.string s] w (.bool true)):=by have h:=CV.out;rw[hv]at h;exact h
  have hrc:=Lib.runeCount_le s
  clear hv CV
  go_enter Tryz.func291,Tryz.ntmps291
  go_wp2_with fail
  refine CV2.out.mono ?_
  rintro e wa ⟨rfl,ba⟩
  go_wp2_with fail
  refine (Tryz.utf8_RuneCountInString s _ (by omega)).mono ?_
  rintro e wb ⟨rfl,pos,hwb⟩
  have bb:Below wa.heap.size wa wb:=by rw[hwb];exact (Below.refl _ _).alloc (Nat.le_refl _) _
  have za:=ba.size
  have Bb:Below w.heap.size w wb:=ba.trans (bb.mono za)
  clear hwb bb ba pos
  have zb:=Bb.size
  generalize Lib.runeCount s=rc at*
  go_wp2_with (at_make;refine wpList_make_own _ rfl _ _ 95 rfl w.heap.size 3 i0 (.int .i64 0) 1 Tryz.underlying95 hi hz0 hz1 _ _ _ rc rfl rfl (by omega) (by rw[hz2];omega) (by unfold maxLen;omega) zb ?_)
  intro wm hmo hgm
  have Bm:Below w.heap.size w wm:=Bb.grown hgm zb (fun k hk=>by cases hk)
  have zm:=Bm.size
  have hit:(wm.iter s 0).heap[wm.heap.size]? =some (.stringIter s 0):=World.iter_heap wm s 0
  have Bi:Below w.heap.size w (wm.iter s 0):=Bm.alloc zm _
  have oi:(wm.iter s 0).ownsRow w.heap.size 3 1 (.slice (some ⟨wb.heap.size,0,none⟩) 0 rc) 0 []:=hmo.alloc _
  clear hgm hmo Bb Bm
  have HK:Hid (w.heap.size≤wm.heap.size):=zm
  go_wp2_with fail
  generalize wm.heap.size=K at hit HK⊢
  go_loopw[4] (fun v wr=> ∃k:Nat,wr.heap[K]? =some (.stringIter s (stR s k).1)∧wr.ownsRow w.heap.size 3 1 v (stR s k).2.length (zkz (stR s k).2)∧Below w.heap.size w wr)
   (fun _ wr=>s.size-wr.iterPos K)
  case atStart=>exact ⟨0,hit,oi,Bi⟩
  obtain ⟨k,hk,hown,hbel⟩:=hrel
  clear hit oi Bi
  have hsz:=hbel.size
  have hl:=zjZz s k
  have hle:=ziLz s k
  by_cases hlt:(stR s k).1<s.size
  ·have hok:=zpJz s HV.out k hlt
   have H1:Hid ((stR s (k+1)).1=(stR s k).1+(Utf8.decode s (stR s k).1).2):=by show _=_;rw[zdnz s k hlt hok]
   have H2:Hid (∀(w1:World) (v:Value),w1.ownsRow w.heap.size 3 1 v ((stR s k).2.length+1) (zkz (stR s k).2++[.int .i64 ((Utf8.decode s (stR s k).1).1:Int)])→w1.ownsRow w.heap.size 3 1 v (stR s (k+1)).2.length (zkz (stR s (k+1)).2)):=
    fun w1 v h=>zgDz s k hlt hok rfl h
   have hw:=Lib.decode_width_pos s (stR s k).1 hlt
   have hr31:=decode_le s (stR s k).1
   have hnx:=fun ty=>Lib.run_next_any_at (P:=Tryz.prog) wr K s (stR s k).1 ty hk hlt
   have hk2:=Lib.iterAt_heap wr K s (stR s k).1 ((stR s k).1+(Utf8.decode s (stR s k).1).2) hk
   have hown2:=zmhz hown hk ((stR s k).1+(Utf8.decode s (stR s k).1).2)
   have hneK:some K≠u4.ownBlock:=zdZz hown hk
   have hbel2:=Lib.below_iterAt hbel HK.out s ((stR s k).1+(Utf8.decode s (stR s k).1).2)
   have hKlt:K<wr.heap.size:=(Array.getElem?_eq_some_iff.1 hk).1
   have HI:Hid (wr.iterPos K=(stR s k).1):=by show _=_;unfold World.iterPos;rw[hk]
   generalize (Utf8.decode s (stR s k).1).1=R at*
   generalize (Utf8.decode s (stR s k).1).2=W at*
   have HNK:Hid (some K≠u4.ownBlock):=hneK
   clear hok hneK hown hbel
   generalize hp:(stR s k).1=p at*
   generalize (stR s k).2=l at*
   have HPP:Hid ((stR s k).1=p):=hp
   clear hp
   have zi:(wr.iterAt K s (p+W)).heap.size=wr.heap.size:=Lib.iterAt_size wr K s (p+W)
   have HZI:Hid ((wr.iterAt K s (p+W)).heap.size=wr.heap.size):=zi
   have hz3:w.heap.size≤(wr.iterAt K s (p+W)).heap.size:=by omega
   have hK3:K<(wr.iterAt K s (p+W)).heap.size:=by omega
   clear zi hk
   generalize wr.iterAt K s (p+W)=wi at*
   go_wp2_with (at_builtin;refine vdz _ rfl _ _ 95 rfl w.heap.size 3 (.int .i64 0) 8 Tryz.underlying95 Tryz.infoInt rfl _ _ _ rfl hown2 #[.int .i64 (R:Int)] 1 rfl rfl (znIz _) (by omega) (by unfold maxLen;omega) hz3 ?_)
   intro v' w1 hown' hb1 hkeep
   have R1:=H2.out w1 v' hown'
   have B1:Below w.heap.size w w1:=hbel2.trans hb1
   have K1:w1.heap[K]? =some (.stringIter s (p+W)):=(hkeep K hK3 HNK.out).trans hk2
   have HI1:Hid (w1.iterPos K=p+W):=by show _=_;unfold World.iterPos;rw[K1]
   clear hown' hb1 hown2 hbel2 hkeep hk2
   go_wp2
   go_roundw
   case rel=>exact ⟨k+1,by rw[H1.out];exact K1,R1,B1⟩
   case measure=>
    have a:=HI.out
    have b:=HI1.out
    simp only[a,b]
    omega
  have HF:Hid (stR s k=z2z s):=ziKz s k (fun h=>hlt h.1)
  have hnx:=fun ty=>Lib.run_next_end_at (P:=Tryz.prog) wr K s (stR s k).1 ty hk hlt
  have O1:wr.ownsRow w.heap.size 3 1 u4 (z2z s).2.length (zkz (z2z s).2):=by rw[←HF.out];exact hown
  clear HF hown
  go_wp2
  go_ret2
  exact .inl ⟨HN.out,_,rfl,O1,hbel⟩
 have HN:Hid ((z2z s).1≠s.size):=fun h=>hv ((zekz s).2 h)
 have CV2:Hid (CB 296 #[.string s] w (.bool false)):=by
  have h:=CV.out
  rw[Bool.not_eq_true]at hv
  rw[hv]at h
  exact h
 clear hv CV
 go_enter Tryz.func291,Tryz.ntmps291
 go_wp2_with fail
 refine CV2.out.mono ?_
 rintro e wa ⟨rfl,ba⟩
 have za:=ba.size
 have B1:Below w.heap.size w (wa.alloc (.cells #[] 3)):=ba.alloc za _
 have O1:(wa.alloc (.cells #[] 3)).ownsRow w.heap.size 3 1 (.slice (some ⟨wa.heap.size,0,none⟩) 0 0) 0 (zkz []):=World.ownsRow_lit wa #[] 0 za (by decide) rfl
 go_wp2
 go_ret2
 exact .inr ⟨HN.out,_,rfl,O1,B1⟩
theorem zk9z(s:ByteArray)(h:600<(s.size:Int)):z9z (sN s)=none:=by
 cases hd:z9z (sN s)with
 |none=>rfl
 |some l=>
  obtain ⟨hok,he⟩:=(zbcz _ _).1 hd
  have:=zduz hok
  rw[he,zOz]at this
  omega
theorem zmiz(s:ByteArray)(w:World)(h:600<(s.size:Int)):
  Calls Tryz.prog 230 #[.string s] w fun e w'=>vJz w w' none e∧Below w.heap.size w w':=by
 go_enter Tryz.func230,Tryz.ntmps230
 go_wp2
 go_ret2
 exact ⟨zMz rfl (World.ownsRow_lit w #[] 0 (Nat.le_refl _) (by decide) rfl) rfl,(Below.refl _ _).alloc (Nat.le_refl _) _⟩
theorem zmjz(s:ByteArray)(w:World):Calls Tryz.prog 230 #[.string s] w fun e w'=>vJz w w' (z9z (sN s)) e∧Below w.heap.size w w':=by
 by_cases h:(s.size:Int)≤600
 ·exact zf3z s w h
 rw[zk9z s (by omega)]
 exact zmiz s w (by omega)
theorem zmkz(s:ByteArray)(w:World):Calls Tryz.prog 295 #[.string s] w fun e w'=>vJz w w' (z9z (sN s)) e∧Below w.heap.size w w':=by
 by_cases h:(s.size:Int)≤600
 ·exact zgBz s w h
 rw[zk9z s (by omega)]
 exact zcYz s w (by omega)
theorem zc0z{zl:List Int}(h:zdmz zl):zl=(zl.map Int.toNat).map (fun (c:Nat)=>(c:Int)):=by
 rw[List.map_map]
 refine (List.map_id zl).symm.trans (List.map_congr_left fun z hz=> ?_)
 have:=(h z hz).1
 show z=((z.toNat:Nat):Int)
 omega
theorem zaWz{zl:List Int}(h:zdmz zl)(h2:zl.length≤60):yPz (zl.map Int.toNat)=true:=by
 rw[zfmz,←zc0z h]
 exact ⟨h2,h⟩
theorem zq5z{zl:List Int}(h2: ¬zl.length≤60):yPz (zl.map Int.toNat)=false:=by
 unfold yPz
 rw[List.length_map,decide_eq_false h2]
 rfl
def jWz(zl:List Int):Value:=if zl.length≤60 then .tuple #[.string ⟨(b8 (zBz (zl.map Int.toNat))).toArray⟩,.bool true]else .tuple #[.string ⟨#[]⟩,.bool false]
theorem zd0z(zl:List Int)(v:Value)(B:Nat)(w:World)(hk:zdmz zl)(hl:zl.length≤1048576)(h:w.ownsRow B 3 1 v zl.length (zkz zl)):
  Calls Tryz.prog 189 #[v] w fun e w'=>e=.returned (jWz zl)∧Below w.heap.size w w':=by
 by_cases h2:zl.length≤60
 ·have e:jWz zl=.tuple #[.string ⟨(b8 (zBz (zl.map Int.toNat))).toArray⟩,.bool true]:=if_pos h2
  rw[e]
  refine zmfz (zl.map Int.toNat) v B w (zaWz hk h2) ?_
  unfold icN
  rw[←zc0z hk,List.length_map]
  exact h
 have e:jWz zl=.tuple #[.string ⟨#[]⟩,.bool false]:=if_neg h2
 rw[e]
 rcases zpz h with ⟨h0,_⟩|⟨_,g,cap,rfl⟩
 ·omega
 exact vrz zl zl.length g cap B w (fun hh=>h2 hh.1) rfl hl h
theorem zd1z(zl:List Int)(v:Value)(B:Nat)(w:World)(hk:zdmz zl)(hl:zl.length≤1048576)(h:w.ownsRow B 3 1 v zl.length (zkz zl)):
  Calls Tryz.prog 292 #[v] w fun e w'=>e=.returned (jWz zl)∧Below w.heap.size w w':=by
 have hr:w.ownsRow B 3 1 v (zl.map Int.toNat).length (icN (zl.map Int.toNat)):=by
  unfold icN
  rw[←zc0z hk,List.length_map]
  exact h
 have hc:=zgAz (zl.map Int.toNat) v B w (by rw[List.length_map];exact hl) hr
 by_cases h2:zl.length≤60
 ·have e:jWz zl=.tuple #[.string ⟨(b8 (zBz (zl.map Int.toNat))).toArray⟩,.bool true]:=if_pos h2
  rw[e]
  rw[zaWz hk h2,if_pos rfl]at hc
  exact hc
 have e:jWz zl=.tuple #[.string ⟨#[]⟩,.bool false]:=if_neg h2
 rw[e]
 rw[zq5z h2,if_neg (by decide)]at hc
 exact hc
theorem zciz(s:ByteArray)(h:(z2z s).1=s.size):zdmz (z2z s).2:=(zpLz s h).1
theorem zjmz(s:ByteArray):(z2z s).2.length≤s.size:=zr7z s s.size
theorem zsKz{l:List UInt8}(h:isXn l=true):Lib.trimPrefix l xn=l.drop 4:=by
 have h':Lib.hasPrefix l xn=true:=h
 unfold Lib.trimPrefix
 rw[if_pos h']
 rfl
theorem zsLz{l:List UInt8}(h:isXn l=false):Lib.trimPrefix l xn=l:=by
 have h':Lib.hasPrefix l xn=false:=h
 unfold Lib.trimPrefix
 rw[if_neg (by rw[h'];decide)]
def xPz(l:List UInt8):Option (List Nat):=if isXn l=true then z9z (nat8 (l.drop 4))else none
theorem zgEz(s:ByteArray)(w:World):
  Calls Tryz.prog 290 #[.string s] w fun e w'=>e=.returned (.bool (!(isXn s.data.toList)||(xPz s.data.toList).isSome))∧Below w.heap.size w w':=by
 have CP:=Tryz.strings_CutPrefix s ⟨#[120,110,45,45]⟩ w
 have CP':Hid (Calls Tryz.prog 294 #[.string s,.string ⟨#[120,110,45,45]⟩] w fun e w'=>e=.returned (.tuple #[.string ⟨(Lib.trimPrefix s.data.toList xn).toArray⟩,.bool (isXn s.data.toList)])∧w'=w):=CP
 clear CP
 cases hx:isXn s.data.toList with
 |false=>
  rw[hx,zsLz hx]at CP'
  clear hx
  go_enter Tryz.func290,Tryz.ntmps290
  go_wp2_with fail
  refine CP'.out.mono ?_
  rintro e w' ⟨rfl,rfl⟩
  go_wp2_with fail
  go_ret
  exact ⟨rfl,Below.refl _ _⟩
 |true=>
  rw[hx,zsKz hx]at CP'
  have CD:Hid (∀W,Calls Tryz.prog 295 #[.string ⟨(s.data.toList.drop 4).toArray⟩] W fun e w'=>vJz W w' (xPz s.data.toList) e∧Below W.heap.size W w'):=fun W=>by
   have h:=zmkz ⟨(s.data.toList.drop 4).toArray⟩ W
   have e:z9z (sN ⟨(s.data.toList.drop 4).toArray⟩)=xPz s.data.toList:=by
    unfold xPz
    rw[if_pos hx]
    rfl
   rw[e]at h
   exact h
  clear hx
  go_enter Tryz.func290,Tryz.ntmps290
  go_wp2_with fail
  refine CP'.out.mono ?_
  rintro e w' ⟨rfl,rfl⟩
  go_wp2_with fail
  refine (CD.out _).mono ?_
  rintro e wa ⟨hd,ba⟩
  cases hr:xPz s.data.toList with
  |some l=>
   rw[hr]at hd
   obtain ⟨v,rfl,_⟩:=hd
   have HR:Hid (xPz s.data.toList=some l):=hr
   clear hr CD CP'
   go_wp2_with fail
   go_ret
   exact ⟨zgz (by rw[HR.out];rfl),ba⟩
  |none=>
   rw[hr]at hd
   obtain ⟨v,rfl,_⟩:=hd
   have HR:Hid (xPz s.data.toList=none):=hr
   clear hr CD CP'
   go_wp2_with fail
   go_ret
   exact ⟨zgz (by rw[HR.out];rfl),ba⟩
theorem zd2z(s:ByteArray)(w:World)(hs:s.size≤1048576)(hT:Lib.Utf8Tabs 12 13 w)(h1:(z2z s).1=s.size)(h2:(z2z s).2.length≤60):
  Calls Tryz.prog 288 #[.string s] w fun e w'=>e=.returned (.tuple #[.string ⟨(xn++b8 (zBz ((z2z s).2.map Int.toNat))).toArray⟩,.bool true])∧Below w.heap.size w w':=by
 have CR:Hid (Calls Tryz.prog 291 #[.string s] w fun e w'=>zaVz s w e w'):=zigz s w hs hT
 have HA:Hid (zdmz (z2z s).2):=zciz s h1
 have HL:Hid ((z2z s).2.length≤1048576):=by have:=zjmz s;show _≤_;omega
 have HE:Hid (jWz (z2z s).2=.tuple #[.string ⟨(b8 (zBz ((z2z s).2.map Int.toNat))).toArray⟩,.bool true]):=if_pos h2
 have HX:Hid ((⟨#[120,110,45,45]⟩:ByteArray)++⟨(b8 (zBz ((z2z s).2.map Int.toNat))).toArray⟩=⟨(xn++b8 (zBz ((z2z s).2.map Int.toNat))).toArray⟩):=by
  show _=_
  apply ByteArray.ext
  rw[ByteArray.data_append]
  apply Array.toList_inj.1
  simp[xn]
 have hz:(⟨(b8 (zBz ((z2z s).2.map Int.toNat))).toArray⟩:ByteArray).size≤600:=by
  show (b8 (zBz ((z2z s).2.map Int.toNat))).toArray.size≤600
  rw[List.size_toArray,zccz]
  exact zduz (zaWz HA.out h2)
 obtain ⟨T,hTT⟩: ∃T:ByteArray,⟨(b8 (zBz ((z2z s).2.map Int.toNat))).toArray⟩=T:=⟨_,rfl⟩
 rw[hTT]at HE HX hz
 clear hT h2 hTT
 go_enter Tryz.func288,Tryz.ntmps288
 go_wp2_with fail
 refine CR.out.mono ?_
 rintro e wa (⟨_,va,rfl,oa,ba⟩|⟨hn,_⟩)
 ·go_wp2_with fail
  refine (zd1z _ _ _ _ HA.out HL.out oa).mono ?_
  rintro e wb ⟨rfl,bb⟩
  rw[HE.out]
  have B:=ba.trans (bb.mono ba.size)
  clear oa ba bb CR
  go_wp2_with fail
  go_ret2
  refine ⟨?_,B⟩
  rw[←HX.out]
  rfl
 exact absurd h1 hn
theorem zeFz(s:ByteArray)(w:World)(hs:s.size≤1048576)(hT:Lib.Utf8Tabs 12 13 w)(h: ¬((z2z s).1=s.size∧(z2z s).2.length≤60)):
  Calls Tryz.prog 288 #[.string s] w fun e w'=>(∃t:ByteArray,e=.returned (.tuple #[.string t,.bool false]))∧Below w.heap.size w w':=by
 have CR:Hid (Calls Tryz.prog 291 #[.string s] w fun e w'=>zaVz s w e w'):=zigz s w hs hT
 have HA:Hid ((z2z s).1=s.size→zdmz (z2z s).2):=fun h1=>zciz s h1
 have HL:Hid ((z2z s).2.length≤1048576):=by have:=zjmz s;show _≤_;omega
 have HE:Hid ((z2z s).1=s.size→jWz (z2z s).2=.tuple #[.string ⟨#[]⟩,.bool false]):=fun h1=>if_neg (fun h2=>h ⟨h1,h2⟩)
 clear hT h
 go_enter Tryz.func288,Tryz.ntmps288
 go_wp2_with fail
 refine CR.out.mono ?_
 rintro e wa (⟨h1,va,rfl,oa,ba⟩|⟨_,va,rfl,_,ba⟩)
 ·go_wp2_with fail
  refine (zd1z _ _ _ _ (HA.out h1) HL.out oa).mono ?_
  rintro e wb ⟨rfl,bb⟩
  rw[HE.out h1]
  have B:=ba.trans (bb.mono ba.size)
  clear oa ba bb CR
  go_wp2_with fail
  go_ret2
  exact ⟨⟨_,rfl⟩,B⟩
 clear CR
 go_wp2_with fail
 go_ret2
 exact ⟨⟨_,rfl⟩,ba⟩
end Go.Proofs.YtgcbaphbiaimoaaGreatDoor
