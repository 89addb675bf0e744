/- RuneAtWalk, RunesWalk, AscBase. -/
import Derived.Lib.OthersKept
import Derived.Test.YtijliddchoehhaaGreatDoorQA21
set_option maxHeartbeats 4000000
set_option maxRecDepth 100000
namespace Go.Proofs.YtijliddchoehhaaGreatDoor
open Go.RowKit
def accR(s:ByteArray)(p:Nat)(r0:Int):Nat→Int
 |0=>r0
 |m+1=>accR s p r0 m*64+(bt s (p+(m+1)):Int)%64
theorem accR_bound(s:ByteArray)(p:Nat)(r0:Int)(h0:0≤r0)(h1:r0<32): ∀m,m≤3→0≤accR s p r0 m∧accR s p r0 m<8388608
 |0,_=>by simp only[accR];omega
 |1,_=>by simp only[accR];omega
 |2,_=>by simp only[accR];omega
 |3,_=>by simp only[accR];omega
theorem specL1Rune2(s:ByteArray)(p c:Nat)(w:World)(hp:p<s.size)(hs:s.size≤1099511627776)(hc:s[p].toNat=c)(hb1:194≤c)(hb2:c≤223):
  Calls Tryz.prog 125 #[.string s,.int .i64 (p:Int)] w fun e w'=>e=.returned (.tuple #[.int .i64 (runeAt s p).1,.int .i64 (runeAt s p).2])∧Below w.heap.size w w':=by
 have e0:bits .and .i64 (c:Int) 31=(c:Int)%32:=i64_and31 _ (by omega) (by omega)
 have hbt:bt s p=c:=by rw[bt_at s p hp,hc]
 have HBT:Hid (bt s p=c):=hbt
 clear hbt
 by_cases hshort:p+2≤s.size
 ·have hsh: ¬((s.size:Int)<(p:Int)+2):=by omega
  go_enter Tryz.func125,Tryz.ntmps125
  go_wp2_with fail
  refine (specL1In_yes _ 194 223 _ (by omega) (by omega)).mono ?_
  rintro e w' ⟨rfl,rfl⟩
  go_wp2_with fail
  clear e0
  go_loop[8,9] (fun r i=> ∃m:Nat,m≤1∧i=.int .i64 ((m:Int)+1)∧r=.int .i64 (accR s p ((c:Int)%32) m)∧ ∀j,j<m→128≤bt s (p+(j+1))∧bt s (p+(j+1))≤191) (fun _ i=>3-(intOf i).toNat)
  case atStart=>exact ⟨0,by omega,rfl,rfl,fun j h=>by omega⟩
  obtain ⟨m,hm,rfl,rfl,hall⟩:=hrel
  have HA:Hid (∀j,j<m→128≤bt s (p+(j+1))∧bt s (p+(j+1))≤191):=hall
  clear hall
  have hab:=accR_bound s p ((c:Int)%32) (by omega) (by omega) m (by omega)
  by_cases hlt:m<1
  ·have hq:p+(m+1)<s.size:=by omega
   obtain ⟨d,hd⟩: ∃d:Nat,s[p+(m+1)].toNat=d:=⟨_,rfl⟩
   have hd255:d≤255:=by have:=s[p+(m+1)].toNat_lt;omega
   have HD:Hid (bt s (p+(m+1))=d):=by show _=_;rw[bt_at s _ hq,hd]
   have HN:Hid (accR s p ((c:Int)%32) (m+1)=accR s p ((c:Int)%32) m*64+(d:Int)%64):=by show _=_;rw[accR,HD.out]
   generalize accR s p ((c:Int)%32) m=a at hab HN⊢
   obtain ⟨ha0,ha1⟩:=hab
   have e1:bits .and .i64 (d:Int) 63=(d:Int)%64:=i64_and63 _ (by omega) (by omega)
   have e2:bits .or .i64 (a*64) ((d:Int)%64)=a*64+(d:Int)%64:=i64_join 6 _ _ (by omega) (by omega) (by omega) (by omega) (by omega) (by omega)
   by_cases hg:128≤d∧d≤191
   ·obtain ⟨hg1,hg2⟩:=hg
    go_wp2_with fail
    refine (specL1In_yes _ 128 191 _ (by omega) (by omega)).mono ?_
    rintro e w' ⟨rfl,rfl⟩
    go_wp2_with fail
    go_round
    case rel=>
     refine ⟨m+1,by omega,by go_num,by rw[HN.out],fun j hj=> ?_⟩
     by_cases e:j=m
     ·subst e;rw[HD.out];exact ⟨hg1,hg2⟩
     exact HA.out j (by omega)
    case measure=>simp[intOf];omega
   have HG:Hid (((d:Int)<128)∨(191:Int)<(d:Int)):=by show _∨_;omega
   have hR:=rune2_bad s p (by rw[HBT.out];omega) (by
    intro hh
    have:=HD.out
    have hg':=hg
    obtain rfl:m=0:=by omega
    all_goals (simp only[Nat.zero_add]at this;omega))
   have HR:Hid (runeAt s p=(0,0)):=hR
   clear hg hR
   go_wp2_with fail
   refine (specL1In_no _ 128 191 _ HG.out).mono ?_
   rintro e w' ⟨rfl,rfl⟩
   go_wp2_with fail
   go_ret2
   exact ⟨by rw[HR.out];rfl,Below.refl _ _⟩
  have hme:m=1:=by omega
  subst hme
  clear hm hlt
  have hr:accR s p ((c:Int)%32) 1=(bt s p:Int)%32*64+(bt s (p+1):Int)%64:=by
   rw[HBT.out]
   simp only[accR,Nat.zero_add]
  have hR:=rune2 s p (by rw[HBT.out];omega) ⟨by omega,(HA.out 0 (by omega)).1,(HA.out 0 (by omega)).2⟩
  rw[←hr]at hR
  have hlo:128≤accR s p ((c:Int)%32) 1:=by rw[hr,HBT.out];omega
  have hhi:accR s p ((c:Int)%32) 1≤2047:=by rw[hr,HBT.out];omega
  generalize accR s p ((c:Int)%32) 1=r at hR hlo hhi⊢
  have HR:Hid (runeAt s p=(r,2)):=hR
  clear hR hr hab
  go_wp2_with fail
  refine (specL1IsRune_yes r _ ⟨by omega,by omega,by omega⟩).mono ?_
  rintro e w' ⟨rfl,rfl⟩
  go_wp2_with fail
  go_ret2
  exact ⟨by rw[HR.out];rfl,(Below.refl _ _).alloc (Nat.le_refl _) _⟩
 have hR:=rune2_bad s p (by rw[HBT.out];omega) (by omega)
 have HR:Hid (runeAt s p=(0,0)):=hR
 clear hR
 go_enter Tryz.func125,Tryz.ntmps125
 go_wp2_with fail
 refine (specL1In_yes _ 194 223 _ (by omega) (by omega)).mono ?_
 rintro e w' ⟨rfl,rfl⟩
 go_wp2_with fail
 go_ret2
 exact ⟨by rw[HR.out];rfl,Below.refl _ _⟩
theorem specL1Rune3(s:ByteArray)(p c:Nat)(w:World)(hp:p<s.size)(hs:s.size≤1099511627776)(hc:s[p].toNat=c)(hb1:224≤c)(hb2:c≤239):
  Calls Tryz.prog 125 #[.string s,.int .i64 (p:Int)] w fun e w'=>e=.returned (.tuple #[.int .i64 (runeAt s p).1,.int .i64 (runeAt s p).2])∧Below w.heap.size w w':=by
 have e0:bits .and .i64 (c:Int) 15=(c:Int)%16:=i64_and15 _ (by omega) (by omega)
 have hbt:bt s p=c:=by rw[bt_at s p hp,hc]
 have HBT:Hid (bt s p=c):=hbt
 clear hbt
 by_cases hshort:p+3≤s.size
 ·have hsh: ¬((s.size:Int)<(p:Int)+3):=by omega
  go_enter Tryz.func125,Tryz.ntmps125
  go_wp2_with fail
  refine (specL1In_no _ 194 223 _ (.inr (by omega))).mono ?_
  rintro e w' ⟨rfl,rfl⟩
  go_wp2_with fail
  refine (specL1In_yes _ 224 239 _ (by omega) (by omega)).mono ?_
  rintro e w' ⟨rfl,rfl⟩
  go_wp2_with fail
  clear e0
  go_loop[8,9] (fun r i=> ∃m:Nat,m≤2∧i=.int .i64 ((m:Int)+1)∧r=.int .i64 (accR s p ((c:Int)%16) m)∧ ∀j,j<m→128≤bt s (p+(j+1))∧bt s (p+(j+1))≤191) (fun _ i=>4-(intOf i).toNat)
  case atStart=>exact ⟨0,by omega,rfl,rfl,fun j h=>by omega⟩
  obtain ⟨m,hm,rfl,rfl,hall⟩:=hrel
  have HA:Hid (∀j,j<m→128≤bt s (p+(j+1))∧bt s (p+(j+1))≤191):=hall
  clear hall
  have hab:=accR_bound s p ((c:Int)%16) (by omega) (by omega) m (by omega)
  by_cases hlt:m<2
  ·have hq:p+(m+1)<s.size:=by omega
   obtain ⟨d,hd⟩: ∃d:Nat,s[p+(m+1)].toNat=d:=⟨_,rfl⟩
   have hd255:d≤255:=by have:=s[p+(m+1)].toNat_lt;omega
   have HD:Hid (bt s (p+(m+1))=d):=by show _=_;rw[bt_at s _ hq,hd]
   have HN:Hid (accR s p ((c:Int)%16) (m+1)=accR s p ((c:Int)%16) m*64+(d:Int)%64):=by show _=_;rw[accR,HD.out]
   generalize accR s p ((c:Int)%16) m=a at hab HN⊢
   obtain ⟨ha0,ha1⟩:=hab
   have e1:bits .and .i64 (d:Int) 63=(d:Int)%64:=i64_and63 _ (by omega) (by omega)
   have e2:bits .or .i64 (a*64) ((d:Int)%64)=a*64+(d:Int)%64:=i64_join 6 _ _ (by omega) (by omega) (by omega) (by omega) (by omega) (by omega)
   by_cases hg:128≤d∧d≤191
   ·obtain ⟨hg1,hg2⟩:=hg
    go_wp2_with fail
    refine (specL1In_yes _ 128 191 _ (by omega) (by omega)).mono ?_
    rintro e w' ⟨rfl,rfl⟩
    go_wp2_with fail
    go_round
    case rel=>
     refine ⟨m+1,by omega,by go_num,by rw[HN.out],fun j hj=> ?_⟩
     by_cases e:j=m
     ·subst e;rw[HD.out];exact ⟨hg1,hg2⟩
     exact HA.out j (by omega)
    case measure=>simp[intOf];omega
   have HG:Hid (((d:Int)<128)∨(191:Int)<(d:Int)):=by show _∨_;omega
   have hR:=rune3_bad s p (by rw[HBT.out];omega) (by
    intro hh
    have:=HD.out
    have hg':=hg
    rcases (show m=0∨m=1 by omega)with rfl|rfl
    all_goals (simp only[Nat.zero_add,Nat.reduceAdd]at this;omega))
   have HR:Hid (runeAt s p=(0,0)):=hR
   clear hg hR
   go_wp2_with fail
   refine (specL1In_no _ 128 191 _ HG.out).mono ?_
   rintro e w' ⟨rfl,rfl⟩
   go_wp2_with fail
   go_ret2
   exact ⟨by rw[HR.out];rfl,Below.refl _ _⟩
  have hme:m=2:=by omega
  subst hme
  clear hm hlt
  have hr:accR s p ((c:Int)%16) 2=(bt s p:Int)%16*4096+(bt s (p+1):Int)%64*64+(bt s (p+2):Int)%64:=by
   rw[HBT.out]
   simp only[accR,Nat.zero_add,Nat.reduceAdd]
   omega
  have hR:=rune3 s p (accR s p ((c:Int)%16) 2) (by rw[HBT.out];omega) ⟨by omega,(HA.out 0 (by omega)).1,(HA.out 0 (by omega)).2,by omega,(HA.out 1 (by omega)).1,(HA.out 1 (by omega)).2⟩ hr
  have hhi:accR s p ((c:Int)%16) 2≤65535:=by rw[hr,HBT.out];omega
  generalize accR s p ((c:Int)%16) 2=r at hR hab hhi⊢
  obtain ⟨ha0,ha1⟩:=hab
  clear hr
  by_cases hl:r<2048
  ·rw[if_pos (.inl hl)]at hR
   have HR:Hid (runeAt s p=(0,0)):=hR
   clear hR
   go_wp2_with fail
   go_ret2
   exact ⟨by rw[HR.out];rfl,(Below.refl _ _).alloc (Nat.le_refl _) _⟩
  by_cases hg: ¬(r<55296∨57343<r)
  ·rw[if_pos (.inr hg)]at hR
   have HR:Hid (runeAt s p=(0,0)):=hR
   have HG:Hid (¬runeOk r):=by show ¬_;unfold runeOk;omega
   clear hR hg
   go_wp2_with fail
   refine (specL1IsRune_no r _ HG.out).mono ?_
   rintro e w' ⟨rfl,rfl⟩
   go_wp2_with fail
   go_ret2
   exact ⟨by rw[HR.out];rfl,(Below.refl _ _).alloc (Nat.le_refl _) _⟩
  rw[if_neg (by omega)]at hR
  have HR:Hid (runeAt s p=(r,3)):=hR
  have HG:Hid (runeOk r):=by show runeOk r;unfold runeOk;omega
  clear hR hg
  go_wp2_with fail
  refine (specL1IsRune_yes r _ HG.out).mono ?_
  rintro e w' ⟨rfl,rfl⟩
  go_wp2_with fail
  go_ret2
  exact ⟨by rw[HR.out];rfl,(Below.refl _ _).alloc (Nat.le_refl _) _⟩
 have hR:=rune3_bad s p (by rw[HBT.out];omega) (by omega)
 have HR:Hid (runeAt s p=(0,0)):=hR
 clear hR
 go_enter Tryz.func125,Tryz.ntmps125
 go_wp2_with fail
 refine (specL1In_no _ 194 223 _ (.inr (by omega))).mono ?_
 rintro e w' ⟨rfl,rfl⟩
 go_wp2_with fail
 refine (specL1In_yes _ 224 239 _ (by omega) (by omega)).mono ?_
 rintro e w' ⟨rfl,rfl⟩
 go_wp2_with fail
 go_ret2
 exact ⟨by rw[HR.out];rfl,Below.refl _ _⟩
theorem specL1Rune4(s:ByteArray)(p c:Nat)(w:World)(hp:p<s.size)(hs:s.size≤1099511627776)(hc:s[p].toNat=c)(hb1:240≤c)(hb2:c≤244):
  Calls Tryz.prog 125 #[.string s,.int .i64 (p:Int)] w fun e w'=>e=.returned (.tuple #[.int .i64 (runeAt s p).1,.int .i64 (runeAt s p).2])∧Below w.heap.size w w':=by
 have e0:bits .and .i64 (c:Int) 7=(c:Int)%8:=i64_and7 _ (by omega) (by omega)
 have hbt:bt s p=c:=by rw[bt_at s p hp,hc]
 have HBT:Hid (bt s p=c):=hbt
 clear hbt
 by_cases hshort:p+4≤s.size
 ·have hsh: ¬((s.size:Int)<(p:Int)+4):=by omega
  go_enter Tryz.func125,Tryz.ntmps125
  go_wp2_with fail
  refine (specL1In_no _ 194 223 _ (.inr (by omega))).mono ?_
  rintro e w' ⟨rfl,rfl⟩
  go_wp2_with fail
  refine (specL1In_no _ 224 239 _ (.inr (by omega))).mono ?_
  rintro e w' ⟨rfl,rfl⟩
  go_wp2_with fail
  refine (specL1In_yes _ 240 244 _ (by omega) (by omega)).mono ?_
  rintro e w' ⟨rfl,rfl⟩
  go_wp2_with fail
  clear e0
  go_loop[8,9] (fun r i=> ∃m:Nat,m≤3∧i=.int .i64 ((m:Int)+1)∧r=.int .i64 (accR s p ((c:Int)%8) m)∧ ∀j,j<m→128≤bt s (p+(j+1))∧bt s (p+(j+1))≤191) (fun _ i=>5-(intOf i).toNat)
  case atStart=>exact ⟨0,by omega,rfl,rfl,fun j h=>by omega⟩
  obtain ⟨m,hm,rfl,rfl,hall⟩:=hrel
  have HA:Hid (∀j,j<m→128≤bt s (p+(j+1))∧bt s (p+(j+1))≤191):=hall
  clear hall
  have hab:=accR_bound s p ((c:Int)%8) (by omega) (by omega) m (by omega)
  by_cases hlt:m<3
  ·have hq:p+(m+1)<s.size:=by omega
   obtain ⟨d,hd⟩: ∃d:Nat,s[p+(m+1)].toNat=d:=⟨_,rfl⟩
   have hd255:d≤255:=by have:=s[p+(m+1)].toNat_lt;omega
   have HD:Hid (bt s (p+(m+1))=d):=by show _=_;rw[bt_at s _ hq,hd]
   have HN:Hid (accR s p ((c:Int)%8) (m+1)=accR s p ((c:Int)%8) m*64+(d:Int)%64):=by show _=_;rw[accR,HD.out]
   generalize accR s p ((c:Int)%8) m=a at hab HN⊢
   obtain ⟨ha0,ha1⟩:=hab
   have e1:bits .and .i64 (d:Int) 63=(d:Int)%64:=i64_and63 _ (by omega) (by omega)
   have e2:bits .or .i64 (a*64) ((d:Int)%64)=a*64+(d:Int)%64:=i64_join 6 _ _ (by omega) (by omega) (by omega) (by omega) (by omega) (by omega)
   by_cases hg:128≤d∧d≤191
   ·obtain ⟨hg1,hg2⟩:=hg
    go_wp2_with fail
    refine (specL1In_yes _ 128 191 _ (by omega) (by omega)).mono ?_
    rintro e w' ⟨rfl,rfl⟩
    go_wp2_with fail
    go_round
    case rel=>
     refine ⟨m+1,by omega,by go_num,by rw[HN.out],fun j hj=> ?_⟩
     by_cases e:j=m
     ·subst e;rw[HD.out];exact ⟨hg1,hg2⟩
     exact HA.out j (by omega)
    case measure=>simp[intOf];omega
   have HG:Hid (((d:Int)<128)∨(191:Int)<(d:Int)):=by show _∨_;omega
   have hR:=rune4_bad s p (by rw[HBT.out];omega) (by
    intro hh
    have:=HD.out
    have hg':=hg
    rcases (show m=0∨m=1∨m=2 by omega)with rfl|rfl|rfl
    all_goals (simp only[Nat.zero_add,Nat.reduceAdd]at this;omega))
   have HR:Hid (runeAt s p=(0,0)):=hR
   clear hg hR
   go_wp2_with fail
   refine (specL1In_no _ 128 191 _ HG.out).mono ?_
   rintro e w' ⟨rfl,rfl⟩
   go_wp2_with fail
   go_ret2
   exact ⟨by rw[HR.out];rfl,Below.refl _ _⟩
  have hme:m=3:=by omega
  subst hme
  clear hm hlt
  have hr:accR s p ((c:Int)%8) 3=(bt s p:Int)%8*262144+(bt s (p+1):Int)%64*4096+(bt s (p+2):Int)%64*64+(bt s (p+3):Int)%64:=by
   rw[HBT.out]
   simp only[accR,Nat.zero_add,Nat.reduceAdd]
   omega
  have hR:=rune4 s p (accR s p ((c:Int)%8) 3) (by rw[HBT.out];omega) ⟨by omega,(HA.out 0 (by omega)).1,(HA.out 0 (by omega)).2,by omega,(HA.out 1 (by omega)).1,(HA.out 1 (by omega)).2,by omega,(HA.out 2 (by omega)).1,(HA.out 2 (by omega)).2⟩ hr
  have hhi:accR s p ((c:Int)%8) 3≤2097151:=by rw[hr,HBT.out];omega
  generalize accR s p ((c:Int)%8) 3=r at hR hab hhi⊢
  obtain ⟨ha0,ha1⟩:=hab
  clear hr
  by_cases hl:r<65536
  ·rw[if_pos (.inl hl)]at hR
   have HR:Hid (runeAt s p=(0,0)):=hR
   clear hR
   go_wp2_with fail
   go_ret2
   exact ⟨by rw[HR.out];rfl,(Below.refl _ _).alloc (Nat.le_refl _) _⟩
  by_cases hg: ¬r≤1114111
  ·rw[if_pos (.inr hg)]at hR
   have HR:Hid (runeAt s p=(0,0)):=hR
   have HG:Hid (¬runeOk r):=by show ¬_;unfold runeOk;omega
   clear hR hg
   go_wp2_with fail
   refine (specL1IsRune_no r _ HG.out).mono ?_
   rintro e w' ⟨rfl,rfl⟩
   go_wp2_with fail
   go_ret2
   exact ⟨by rw[HR.out];rfl,(Below.refl _ _).alloc (Nat.le_refl _) _⟩
  rw[if_neg (by omega)]at hR
  have HR:Hid (runeAt s p=(r,4)):=hR
  have HG:Hid (runeOk r):=by show runeOk r;unfold runeOk;omega
  clear hR hg
  go_wp2_with fail
  refine (specL1IsRune_yes r _ HG.out).mono ?_
  rintro e w' ⟨rfl,rfl⟩
  go_wp2_with fail
  go_ret2
  exact ⟨by rw[HR.out];rfl,(Below.refl _ _).alloc (Nat.le_refl _) _⟩
 have hR:=rune4_bad s p (by rw[HBT.out];omega) (by omega)
 have HR:Hid (runeAt s p=(0,0)):=hR
 clear hR
 go_enter Tryz.func125,Tryz.ntmps125
 go_wp2_with fail
 refine (specL1In_no _ 194 223 _ (.inr (by omega))).mono ?_
 rintro e w' ⟨rfl,rfl⟩
 go_wp2_with fail
 refine (specL1In_no _ 224 239 _ (.inr (by omega))).mono ?_
 rintro e w' ⟨rfl,rfl⟩
 go_wp2_with fail
 refine (specL1In_yes _ 240 244 _ (by omega) (by omega)).mono ?_
 rintro e w' ⟨rfl,rfl⟩
 go_wp2_with fail
 go_ret2
 exact ⟨by rw[HR.out];rfl,Below.refl _ _⟩
theorem specL1Rune1(s:ByteArray)(p c:Nat)(w:World)(hp:p<s.size)(_hs:s.size≤1099511627776)(hc:s[p].toNat=c)(hb:c<128):
  Calls Tryz.prog 125 #[.string s,.int .i64 (p:Int)] w fun e w'=>e=.returned (.tuple #[.int .i64 (runeAt s p).1,.int .i64 (runeAt s p).2])∧Below w.heap.size w w':=by
 have hR:=rune1 s p (by rw[bt_at s p hp,hc];omega)
 rw[bt_at s p hp,hc]at hR
 have HR:Hid (runeAt s p=((c:Int),1)):=hR
 clear hR
 go_enter Tryz.func125,Tryz.ntmps125
 go_wp2_with fail
 go_ret2
 exact ⟨by rw[HR.out];rfl,Below.refl _ _⟩
theorem specL1Rune0(s:ByteArray)(p c:Nat)(w:World)(hp:p<s.size)(_hs:s.size≤1099511627776)(hc:s[p].toNat=c)(hb:128≤c)(hb2:c<194∨244<c):
  Calls Tryz.prog 125 #[.string s,.int .i64 (p:Int)] w fun e w'=>e=.returned (.tuple #[.int .i64 (runeAt s p).1,.int .i64 (runeAt s p).2])∧Below w.heap.size w w':=by
 have hR:=rune0 s p (by rw[bt_at s p hp,hc];omega) (by rw[bt_at s p hp,hc];omega)
 have HR:Hid (runeAt s p=(0,0)):=hR
 have h255:c≤255:=by have:=s[p].toNat_lt;omega
 have HB:Hid (c<194∨244<c):=hb2
 clear hR hb2
 go_enter Tryz.func125,Tryz.ntmps125
 go_wp2_with fail
 refine (specL1In_no _ 194 223 _ (by have:=HB.out;omega)).mono ?_
 rintro e w' ⟨rfl,rfl⟩
 go_wp2_with fail
 refine (specL1In_no _ 224 239 _ (by have:=HB.out;omega)).mono ?_
 rintro e w' ⟨rfl,rfl⟩
 go_wp2_with fail
 refine (specL1In_no _ 240 244 _ (by have:=HB.out;omega)).mono ?_
 rintro e w' ⟨rfl,rfl⟩
 go_wp2_with fail
 go_ret2
 exact ⟨by rw[HR.out];rfl,Below.refl _ _⟩
theorem specL1Rune(s:ByteArray)(p:Nat)(w:World)(hp:p<s.size)(hs:s.size≤1099511627776):
  Calls Tryz.prog 125 #[.string s,.int .i64 (p:Int)] w fun e w'=>e=.returned (.tuple #[.int .i64 (runeAt s p).1,.int .i64 (runeAt s p).2])∧Below w.heap.size w w':=by
 by_cases h1:s[p].toNat<128
 ·exact specL1Rune1 s p _ w hp hs rfl h1
 by_cases h2:194≤s[p].toNat∧s[p].toNat≤223
 ·exact specL1Rune2 s p _ w hp hs rfl h2.1 h2.2
 by_cases h3:224≤s[p].toNat∧s[p].toNat≤239
 ·exact specL1Rune3 s p _ w hp hs rfl h3.1 h3.2
 by_cases h4:240≤s[p].toNat∧s[p].toNat≤244
 ·exact specL1Rune4 s p _ w hp hs rfl h4.1 h4.2
 exact specL1Rune0 s p _ w hp hs rfl (by omega) (by omega)
theorem int_one(x:Int): ∀u∈ #[Value.int .i64 x].toList,u.oneCell'=true:=by
 intro u hu;simp at hu;subst hu;rfl
def RunesPost(s:ByteArray)(w:World)(e:Ending)(w':World):Prop:=
 ((finR s).1=s.size∧ ∃v,e=.returned (.tuple #[v,.bool true])∧w'.ownsRow w.heap.size 3 1 v (finR s).2.length (icells (finR s).2)∧Below w.heap.size w w')∨
 ((finR s).1≠s.size∧ ∃v,e=.returned (.tuple #[v,.bool false])∧w'.ownsRow w.heap.size 3 1 v 0 (icells [])∧Below w.heap.size w w')
theorem runes_step(s:ByteArray)(k:Nat)(h1:(stR s k).1<s.size)(h2:okAt s (stR s k).1){w1:World}{B:Nat}{v:Value}{e:TypeId}{x:Int}(hx:x=((Utf8.decode s (stR s k).1).1:Int))
  (hown:w1.ownsRow B e 1 v ((stR s k).2.length+1) (icells (stR s k).2++[.int .i64 x])):
  w1.ownsRow B e 1 v (stR s (k+1)).2.length (icells (stR s (k+1)).2):=by
 subst hx
 rw[stR_step s k h1 h2]
 simp only
 rw[icells_snoc,List.length_append]
 exact hown
theorem own_not_iter{w:World}{B:Nat}{e:TypeId}{size:Nat}{v:Value}{n:Nat}{xs:List Value}{K:Nat}{s:ByteArray}{p:Nat}(h:w.ownsRow B e size v n xs)(hk:w.heap[K]? =some (.stringIter s p)):some K≠v.ownBlock:=by
 intro hx
 rcases h.2 with ⟨rfl,_⟩|⟨g,cap,cur,rfl,_,hg,_⟩
 ·simp[Value.ownBlock]at hx
 simp[Value.ownBlock]at hx
 subst hx
 rw[hk]at hg
 simp at hg
theorem own_iterAt{w:World}{B:Nat}{e:TypeId}{size:Nat}{v:Value}{n:Nat}{xs:List Value}{K:Nat}{s:ByteArray}{p:Nat}(h:w.ownsRow B e size v n xs)(hk:w.heap[K]? =some (.stringIter s p))(p':Nat):(w.iterAt K s p').ownsRow B e size v n xs:=by
 have hne:=own_not_iter h hk
 refine ⟨h.1,?_⟩
 rcases h.2 with hn|⟨g,cap,cur,rfl,hb,hg,rest⟩
 ·exact .inl hn
 refine .inr ⟨g,cap,cur,rfl,hb,?_,rest⟩
 have hgk:g≠K:=by
  intro e
  subst e
  simp[Value.ownBlock]at hne
 rw[Lib.iterAt_other w K g s p' hgk]
 exact hg
theorem specRunes(s:ByteArray)(w:World)(hs:s.size≤1048576):
  Calls Tryz.prog 110 #[.string s] w fun e w'=>RunesPost s w e w':=by
 go_enter Tryz.func110,Tryz.ntmps110
 go_wp2
 go_loopw[4,5] (fun v i wr=> ∃k:Nat,i=.int .i64 ((stR s k).1:Int)∧wr.ownsRow w.heap.size 3 1 v (stR s k).2.length (icells (stR s k).2)∧Below w.heap.size w wr)
  (fun _ i _=>s.size-(intOf i).toNat)
 case atStart=>exact ⟨0,rfl,World.ownsRow_lit w #[] 0 (Nat.le_refl _) (by decide) rfl,(Below.refl _ _).alloc (Nat.le_refl _) _⟩
 obtain ⟨k,rfl,hown,hbel⟩:=hrel
 have hsz:=hbel.size
 have hl:=stR_len' s k
 have hle:=stR_le s k
 have HS1:Hid (∀(h1:(stR s k).1<s.size) (h2:okAt s (stR s k).1),(stR s (k+1)).1=(stR s k).1+(Utf8.decode s (stR s k).1).2):=fun h1 h2=>by rw[stR_step s k h1 h2]
 have HST:Hid (¬((stR s k).1<s.size∧okAt s (stR s k).1)→stR s k=finR s):=fun h=>stR_fin s k h
 have HSP:Hid (∀(h1:(stR s k).1<s.size) (h2:okAt s (stR s k).1) (w1:World) (v:Value) (x:Int) (hx:x=((Utf8.decode s (stR s k).1).1:Int)),
  w1.ownsRow w.heap.size 3 1 v ((stR s k).2.length+1) (icells (stR s k).2++[.int .i64 x])→w1.ownsRow w.heap.size 3 1 v (stR s (k+1)).2.length (icells (stR s (k+1)).2)):=
  fun h1 h2 w1 v x hx h=>runes_step s k h1 h2 hx h
 have HP:Hid ((stR s k).1=(stR s k).1):=rfl
 by_cases hlt:(stR s k).1<s.size
 ·have hw:=Lib.decode_width_pos s (stR s k).1 hlt
  by_cases hok:okAt s (stR s k).1
  ·have hr:runeAt s (stR s k).1=(((Utf8.decode s (stR s k).1).1:Int),((Utf8.decode s (stR s k).1).2:Int)):=by unfold runeAt;rw[if_pos hok]
   have hw4:(stR s k).1+(Utf8.decode s (stR s k).1).2≤s.size:=by rw[←HS1.out hlt hok];exact stR_le s (k+1)
   have HOK:Hid (okAt s (stR s k).1):=hok
   have cr:=specL1Rune s (stR s k).1
   rw[hr]at cr
   have CR:Hid (∀(W:World) (_:(stR s k).1<s.size) (_:s.size≤1099511627776),CB 125 #[.string s,.int .i64 ((stR s k).1:Int)] W (.tuple #[.int .i64 ((Utf8.decode s (stR s k).1).1:Int),.int .i64 ((Utf8.decode s (stR s k).1).2:Int)])):=cr
   clear hok hr cr HST
   have H1:Hid ((stR s (k+1)).1=(stR s k).1+(Utf8.decode s (stR s k).1).2):=HS1.out hlt HOK.out
   have H2:Hid (∀(w1:World) (v:Value),w1.ownsRow w.heap.size 3 1 v ((stR s k).2.length+1) (icells (stR s k).2++[.int .i64 ((Utf8.decode s (stR s k).1).1:Int)])→w1.ownsRow w.heap.size 3 1 v (stR s (k+1)).2.length (icells (stR s (k+1)).2)):=
    fun w1 v h=>HSP.out hlt HOK.out w1 v _ rfl h
   clear HS1 HSP HP
   generalize (Utf8.decode s (stR s k).1).1=R at*
   generalize (Utf8.decode s (stR s k).1).2=W at*
   generalize hp:(stR s k).1=p at*
   generalize (stR s k).2=l at*
   have HPP:Hid ((stR s k).1=p):=hp
   clear hp
   have hne:((W:Int)==0)=false:=by simp;omega
   go_wp2_with fail
   refine (CR.out _ hlt (by omega)).mono ?_
   rintro e wc ⟨rfl,hbc⟩
   have hown2:=own_below hown hbc
   have hsc:=hbc.size
   go_wp2_with (at_builtin;refine wpList_append_new _ rfl _ _ 109 rfl w.heap.size 3 (.int .i64 0) 8 Tryz.underlying109 Tryz.infoInt rfl _ _ _ rfl hown2 #[.int .i64 (R:Int)] 1 rfl rfl (int_one _) (by omega) (by unfold maxLen;omega) (by omega) ?_)
   intro v' w1 hown' hb1
   have R1:=H2.out w1 v' hown'
   have B1:Below w.heap.size w w1:=(hbel.trans (hbc.mono hsz)).trans hb1
   clear hown' hb1 hown hbel hown2 hbc
   go_wp2
   go_roundw
   case rel=>exact ⟨k+1,by rw[H1.out];go_num,R1,B1⟩
   case measure=>simp[intOf];omega
  have hr:runeAt s (stR s k).1=(0,0):=by unfold runeAt;rw[if_neg hok]
  have HF:Hid (stR s k=finR s):=HST.out (fun h=>hok h.2)
  have cr:=specL1Rune s (stR s k).1
  rw[hr]at cr
  have CR:Hid (∀(W:World) (_:(stR s k).1<s.size) (_:s.size≤1099511627776),CB 125 #[.string s,.int .i64 ((stR s k).1:Int)] W (.tuple #[.int .i64 0,.int .i64 0])):=cr
  clear hok hr cr HST HS1 HSP HP hw
  have HN:Hid ((finR s).1≠s.size):=by show _≠_;rw[←HF.out];omega
  generalize (stR s k).1=p at*
  clear HF
  go_wp2_with fail
  refine (CR.out _ hlt (by omega)).mono ?_
  rintro e wc ⟨rfl,hbc⟩
  have hsc:=hbc.size
  have B1:Below w.heap.size w (wc.alloc (.cells #[] 3)):=(hbel.trans (hbc.mono hsz)).alloc (by omega) _
  have O1:(wc.alloc (.cells #[] 3)).ownsRow w.heap.size 3 1 (.slice (some ⟨wc.heap.size,0,none⟩) 0 0) 0 (icells []):=World.ownsRow_lit wc #[] 0 (by omega) (by decide) rfl
  go_wp2
  go_ret2
  exact .inr ⟨HN.out,_,rfl,O1,B1⟩
 have HF:Hid (stR s k=finR s):=HST.out (fun h=>hlt h.1)
 have HN:Hid ((finR s).1=s.size):=by show _=_;rw[←HF.out];omega
 have O1:wr.ownsRow w.heap.size 3 1 u4 (finR s).2.length (icells (finR s).2):=by rw[←HF.out];exact hown
 clear HF HST HS1 HSP HP hown
 generalize (stR s k).1=p at*
 go_wp2
 go_ret2
 exact .inl ⟨HN.out,_,rfl,O1,hbel⟩
theorem implRunes(s:ByteArray)(w:World)(hs:s.size≤1048576)(hT:Lib.Utf8Tabs 2 3 w):
  Calls Tryz.prog 120 #[.string s] w fun e w'=>RunesPost s w e w':=by
 obtain ⟨i0,hi,hz0,hz1,hz2⟩:=info_parts Tryz.infoInt
 have cv:=Any.utf8_ValidString Tryz.lays196 s w (by omega) hT
 have CV:Hid (CB 135 #[.string s] w (.bool (Lib.validD s.data.toList))):=cv
 clear cv hT
 by_cases hv:Lib.validD s.data.toList=true
 ·have HV:Hid (Lib.validD s.data.toList=true):=hv
  have HN:Hid ((finR s).1=s.size):=(valid_iff s).1 hv
  have CV2:Hid (CB 135 #[.string s] w (.bool true)):=by have h:=CV.out;rw[hv]at h;exact h
  have hrc:=Lib.runeCount_le s
  clear hv CV
  go_enter Tryz.func120,Tryz.ntmps120
  go_wp2_with fail
  refine CV2.out.mono ?_
  rintro e wa ⟨rfl,ba⟩
  go_wp2_with fail
  refine (Tryz.utf8_RuneCountInString s _ (by omega)).mono ?_
  rintro e wb ⟨rfl,pos,hwb⟩
  have bb:Below wa.heap.size wa wb:=by rw[hwb];exact (Below.refl _ _).alloc (Nat.le_refl _) _
  have za:=ba.size
  have Bb:Below w.heap.size w wb:=ba.trans (bb.mono za)
  clear hwb bb ba pos
  have zb:=Bb.size
  generalize Lib.runeCount s=rc at*
  go_wp2_with (at_make;refine wpList_make_own _ rfl _ _ 109 rfl w.heap.size 3 i0 (.int .i64 0) 1 Tryz.underlying109 hi hz0 hz1 _ _ _ rc rfl rfl (by omega) (by rw[hz2];omega) (by unfold maxLen;omega) zb ?_)
  intro wm hmo hgm
  have Bm:Below w.heap.size w wm:=Bb.grown hgm zb (fun k hk=>by cases hk)
  have zm:=Bm.size
  have hit:(wm.iter s 0).heap[wm.heap.size]? =some (.stringIter s 0):=World.iter_heap wm s 0
  have Bi:Below w.heap.size w (wm.iter s 0):=Bm.alloc zm _
  have oi:(wm.iter s 0).ownsRow w.heap.size 3 1 (.slice (some ⟨wb.heap.size,0,none⟩) 0 rc) 0 []:=hmo.alloc _
  clear hgm hmo Bb Bm
  have HK:Hid (w.heap.size≤wm.heap.size):=zm
  go_wp2_with fail
  generalize wm.heap.size=K at hit HK⊢
  go_loopw[4] (fun v wr=> ∃k:Nat,wr.heap[K]? =some (.stringIter s (stR s k).1)∧wr.ownsRow w.heap.size 3 1 v (stR s k).2.length (icells (stR s k).2)∧Below w.heap.size w wr)
   (fun _ wr=>s.size-wr.iterPos K)
  case atStart=>exact ⟨0,hit,oi,Bi⟩
  obtain ⟨k,hk,hown,hbel⟩:=hrel
  clear hit oi Bi
  have hsz:=hbel.size
  have hl:=stR_len' s k
  have hle:=stR_le s k
  by_cases hlt:(stR s k).1<s.size
  ·have hok:=valid_ok s HV.out k hlt
   have H1:Hid ((stR s (k+1)).1=(stR s k).1+(Utf8.decode s (stR s k).1).2):=by show _=_;rw[stR_step s k hlt hok]
   have H2:Hid (∀(w1:World) (v:Value),w1.ownsRow w.heap.size 3 1 v ((stR s k).2.length+1) (icells (stR s k).2++[.int .i64 ((Utf8.decode s (stR s k).1).1:Int)])→w1.ownsRow w.heap.size 3 1 v (stR s (k+1)).2.length (icells (stR s (k+1)).2)):=
    fun w1 v h=>runes_step s k hlt hok rfl h
   have hw:=Lib.decode_width_pos s (stR s k).1 hlt
   have hr31:=decode_le s (stR s k).1
   have hnx:=fun ty=>Lib.run_next_any_at (P:=Tryz.prog) wr K s (stR s k).1 ty hk hlt
   have hk2:=Lib.iterAt_heap wr K s (stR s k).1 ((stR s k).1+(Utf8.decode s (stR s k).1).2) hk
   have hown2:=own_iterAt hown hk ((stR s k).1+(Utf8.decode s (stR s k).1).2)
   have hneK:some K≠u4.ownBlock:=own_not_iter hown hk
   have hbel2:=Lib.below_iterAt hbel HK.out s ((stR s k).1+(Utf8.decode s (stR s k).1).2)
   have hKlt:K<wr.heap.size:=(Array.getElem?_eq_some_iff.1 hk).1
   have HI:Hid (wr.iterPos K=(stR s k).1):=by show _=_;unfold World.iterPos;rw[hk]
   generalize (Utf8.decode s (stR s k).1).1=R at*
   generalize (Utf8.decode s (stR s k).1).2=W at*
   have HNK:Hid (some K≠u4.ownBlock):=hneK
   clear hok hneK hown hbel
   generalize hp:(stR s k).1=p at*
   generalize (stR s k).2=l at*
   have HPP:Hid ((stR s k).1=p):=hp
   clear hp
   have zi:(wr.iterAt K s (p+W)).heap.size=wr.heap.size:=Lib.iterAt_size wr K s (p+W)
   have HZI:Hid ((wr.iterAt K s (p+W)).heap.size=wr.heap.size):=zi
   have hz3:w.heap.size≤(wr.iterAt K s (p+W)).heap.size:=by omega
   have hK3:K<(wr.iterAt K s (p+W)).heap.size:=by omega
   clear zi hk
   generalize wr.iterAt K s (p+W)=wi at*
   go_wp2_with (at_builtin;refine wpList_append_newG _ rfl _ _ 109 rfl w.heap.size 3 (.int .i64 0) 8 Tryz.underlying109 Tryz.infoInt rfl _ _ _ rfl hown2 #[.int .i64 (R:Int)] 1 rfl rfl (int_one _) (by omega) (by unfold maxLen;omega) hz3 ?_)
   intro v' w1 hown' hb1 hkeep
   have R1:=H2.out w1 v' hown'
   have B1:Below w.heap.size w w1:=hbel2.trans hb1
   have K1:w1.heap[K]? =some (.stringIter s (p+W)):=(hkeep K hK3 HNK.out).trans hk2
   have HI1:Hid (w1.iterPos K=p+W):=by show _=_;unfold World.iterPos;rw[K1]
   clear hown' hb1 hown2 hbel2 hkeep hk2
   go_wp2
   go_roundw
   case rel=>exact ⟨k+1,by rw[H1.out];exact K1,R1,B1⟩
   case measure=>
    have a:=HI.out
    have b:=HI1.out
    simp only[a,b]
    omega
  have HF:Hid (stR s k=finR s):=stR_fin s k (fun h=>hlt h.1)
  have hnx:=fun ty=>Lib.run_next_end_at (P:=Tryz.prog) wr K s (stR s k).1 ty hk hlt
  have O1:wr.ownsRow w.heap.size 3 1 u4 (finR s).2.length (icells (finR s).2):=by rw[←HF.out];exact hown
  clear HF hown
  go_wp2
  go_ret2
  exact .inl ⟨HN.out,_,rfl,O1,hbel⟩
 have HN:Hid ((finR s).1≠s.size):=fun h=>hv ((valid_iff s).2 h)
 have CV2:Hid (CB 135 #[.string s] w (.bool false)):=by
  have h:=CV.out
  rw[Bool.not_eq_true]at hv
  rw[hv]at h
  exact h
 clear hv CV
 go_enter Tryz.func120,Tryz.ntmps120
 go_wp2_with fail
 refine CV2.out.mono ?_
 rintro e wa ⟨rfl,ba⟩
 have za:=ba.size
 have B1:Below w.heap.size w (wa.alloc (.cells #[] 3)):=ba.alloc za _
 have O1:(wa.alloc (.cells #[] 3)).ownsRow w.heap.size 3 1 (.slice (some ⟨wa.heap.size,0,none⟩) 0 0) 0 (icells []):=World.ownsRow_lit wa #[] 0 za (by decide) rfl
 go_wp2
 go_ret2
 exact .inr ⟨HN.out,_,rfl,O1,B1⟩
theorem decC_big(s:ByteArray)(h:600<(s.size:Int)):decC (sN s)=none:=by
 cases hd:decC (sN s)with
 |none=>rfl
 |some l=>
  obtain ⟨hok,he⟩:=(dec_iff _ _).1 hd
  have:=encC_600 hok
  rw[he,sN_length]at this
  omega
theorem specDecBig(s:ByteArray)(w:World)(h:600<(s.size:Int)):
  Calls Tryz.prog 130 #[.string s] w fun e w'=>decAns w w' none e∧Below w.heap.size w w':=by
 go_enter Tryz.func130,Tryz.ntmps130
 go_wp2
 go_ret2
 exact ⟨decAns_none rfl (World.ownsRow_lit w #[] 0 (Nat.le_refl _) (by decide) rfl) rfl,(Below.refl _ _).alloc (Nat.le_refl _) _⟩
theorem specDecAll(s:ByteArray)(w:World):Calls Tryz.prog 130 #[.string s] w fun e w'=>decAns w w' (decC (sN s)) e∧Below w.heap.size w w':=by
 by_cases h:(s.size:Int)≤600
 ·exact specPunyDecode s w h
 rw[decC_big s (by omega)]
 exact specDecBig s w (by omega)
theorem implDecAll(s:ByteArray)(w:World):Calls Tryz.prog 124 #[.string s] w fun e w'=>decAns w w' (decC (sN s)) e∧Below w.heap.size w w':=by
 by_cases h:(s.size:Int)≤600
 ·exact implPunyDecode s w h
 rw[decC_big s (by omega)]
 exact implPunyDecode_big s w (by omega)
theorem nats_runes{zl:List Int}(h:allOk zl):zl=(zl.map Int.toNat).map (fun (c:Nat)=>(c:Int)):=by
 rw[List.map_map]
 refine (List.map_id zl).symm.trans (List.map_congr_left fun z hz=> ?_)
 have:=(h z hz).1
 show z=((z.toNat:Nat):Int)
 omega
theorem encOk_yes{zl:List Int}(h:allOk zl)(h2:zl.length≤60):encOk (zl.map Int.toNat)=true:=by
 rw[encOk_Z,←nats_runes h]
 exact ⟨h2,h⟩
theorem encOk_no{zl:List Int}(h2: ¬zl.length≤60):encOk (zl.map Int.toNat)=false:=by
 unfold encOk
 rw[List.length_map,decide_eq_false h2]
 rfl
def encAns(zl:List Int):Value:=if zl.length≤60 then .tuple #[.string ⟨(b8 (encC (zl.map Int.toNat))).toArray⟩,.bool true]else .tuple #[.string ⟨#[]⟩,.bool false]
theorem specEncRunes(zl:List Int)(v:Value)(B:Nat)(w:World)(hk:allOk zl)(hl:zl.length≤1048576)(h:w.ownsRow B 3 1 v zl.length (icells zl)):
  Calls Tryz.prog 111 #[v] w fun e w'=>e=.returned (encAns zl)∧Below w.heap.size w w':=by
 by_cases h2:zl.length≤60
 ·have e:encAns zl=.tuple #[.string ⟨(b8 (encC (zl.map Int.toNat))).toArray⟩,.bool true]:=if_pos h2
  rw[e]
  refine specEncAll (zl.map Int.toNat) v B w (encOk_yes hk h2) ?_
  unfold icN
  rw[←nats_runes hk,List.length_map]
  exact h
 have e:encAns zl=.tuple #[.string ⟨#[]⟩,.bool false]:=if_neg h2
 rw[e]
 rcases own_shape h with ⟨h0,_⟩|⟨_,g,cap,rfl⟩
 ·omega
 exact specPunyEncode_no zl zl.length g cap B w (fun hh=>h2 hh.1) rfl hl h
theorem implEncRunes(zl:List Int)(v:Value)(B:Nat)(w:World)(hk:allOk zl)(hl:zl.length≤1048576)(h:w.ownsRow B 3 1 v zl.length (icells zl)):
  Calls Tryz.prog 121 #[v] w fun e w'=>e=.returned (encAns zl)∧Below w.heap.size w w':=by
 have hr:w.ownsRow B 3 1 v (zl.map Int.toNat).length (icN (zl.map Int.toNat)):=by
  unfold icN
  rw[←nats_runes hk,List.length_map]
  exact h
 have hc:=implEncAll (zl.map Int.toNat) v B w (by rw[List.length_map];exact hl) hr
 by_cases h2:zl.length≤60
 ·have e:encAns zl=.tuple #[.string ⟨(b8 (encC (zl.map Int.toNat))).toArray⟩,.bool true]:=if_pos h2
  rw[e]
  rw[encOk_yes hk h2,if_pos rfl]at hc
  exact hc
 have e:encAns zl=.tuple #[.string ⟨#[]⟩,.bool false]:=if_neg h2
 rw[e]
 rw[encOk_no h2,if_neg (by decide)]at hc
 exact hc
theorem fin_allOk(s:ByteArray)(h:(finR s).1=s.size):allOk (finR s).2:=(fin_back s h).1
theorem fin_len(s:ByteArray):(finR s).2.length≤s.size:=stR_len s s.size
theorem trim_xn{l:List UInt8}(h:isXn l=true):Lib.trimPrefix l xn=l.drop 4:=by
 have h':Lib.hasPrefix l xn=true:=h
 unfold Lib.trimPrefix
 rw[if_pos h']
 rfl
theorem trim_no{l:List UInt8}(h:isXn l=false):Lib.trimPrefix l xn=l:=by
 have h':Lib.hasPrefix l xn=false:=h
 unfold Lib.trimPrefix
 rw[if_neg (by rw[h'];decide)]
def codeR(l:List UInt8):Option (List Nat):=if isXn l=true then decC (nat8 (l.drop 4))else none
theorem implCodeOk(s:ByteArray)(w:World):
  Calls Tryz.prog 108 #[.string s] w fun e w'=>e=.returned (.bool (!(isXn s.data.toList)||(codeR s.data.toList).isSome))∧Below w.heap.size w w':=by
 have CP:=Tryz.strings_CutPrefix s ⟨#[120,110,45,45]⟩ w
 have CP':Hid (Calls Tryz.prog 123 #[.string s,.string ⟨#[120,110,45,45]⟩] w fun e w'=>e=.returned (.tuple #[.string ⟨(Lib.trimPrefix s.data.toList xn).toArray⟩,.bool (isXn s.data.toList)])∧w'=w):=CP
 clear CP
 cases hx:isXn s.data.toList with
 |false=>
  rw[hx,trim_no hx]at CP'
  clear hx
  go_enter Tryz.func108,Tryz.ntmps108
  go_wp2_with fail
  refine CP'.out.mono ?_
  rintro e w' ⟨rfl,rfl⟩
  go_wp2_with fail
  go_ret
  exact ⟨rfl,Below.refl _ _⟩
 |true=>
  rw[hx,trim_xn hx]at CP'
  have CD:Hid (∀W,Calls Tryz.prog 124 #[.string ⟨(s.data.toList.drop 4).toArray⟩] W fun e w'=>decAns W w' (codeR s.data.toList) e∧Below W.heap.size W w'):=fun W=>by
   have h:=implDecAll ⟨(s.data.toList.drop 4).toArray⟩ W
   have e:decC (sN ⟨(s.data.toList.drop 4).toArray⟩)=codeR s.data.toList:=by
    unfold codeR
    rw[if_pos hx]
    rfl
   rw[e]at h
   exact h
  clear hx
  go_enter Tryz.func108,Tryz.ntmps108
  go_wp2_with fail
  refine CP'.out.mono ?_
  rintro e w' ⟨rfl,rfl⟩
  go_wp2_with fail
  refine (CD.out _).mono ?_
  rintro e wa ⟨hd,ba⟩
  cases hr:codeR s.data.toList with
  |some l=>
   rw[hr]at hd
   obtain ⟨v,rfl,_⟩:=hd
   have HR:Hid (codeR s.data.toList=some l):=hr
   clear hr CD CP'
   go_wp2_with fail
   go_ret
   exact ⟨ret_bool (by rw[HR.out];rfl),ba⟩
  |none=>
   rw[hr]at hd
   obtain ⟨v,rfl,_⟩:=hd
   have HR:Hid (codeR s.data.toList=none):=hr
   clear hr CD CP'
   go_wp2_with fail
   go_ret
   exact ⟨ret_bool (by rw[HR.out];rfl),ba⟩
theorem implCodeLabel_yes(s:ByteArray)(w:World)(hs:s.size≤1048576)(hT:Lib.Utf8Tabs 2 3 w)(h1:(finR s).1=s.size)(h2:(finR s).2.length≤60):
  Calls Tryz.prog 106 #[.string s] w fun e w'=>e=.returned (.tuple #[.string ⟨(xn++b8 (encC ((finR s).2.map Int.toNat))).toArray⟩,.bool true])∧Below w.heap.size w w':=by
 have CR:Hid (Calls Tryz.prog 120 #[.string s] w fun e w'=>RunesPost s w e w'):=implRunes s w hs hT
 have HA:Hid (allOk (finR s).2):=fin_allOk s h1
 have HL:Hid ((finR s).2.length≤1048576):=by have:=fin_len s;show _≤_;omega
 have HE:Hid (encAns (finR s).2=.tuple #[.string ⟨(b8 (encC ((finR s).2.map Int.toNat))).toArray⟩,.bool true]):=if_pos h2
 have HX:Hid ((⟨#[120,110,45,45]⟩:ByteArray)++⟨(b8 (encC ((finR s).2.map Int.toNat))).toArray⟩=⟨(xn++b8 (encC ((finR s).2.map Int.toNat))).toArray⟩):=by
  show _=_
  apply ByteArray.ext
  rw[ByteArray.data_append]
  apply Array.toList_inj.1
  simp[xn]
 have hz:(⟨(b8 (encC ((finR s).2.map Int.toNat))).toArray⟩:ByteArray).size≤600:=by
  show (b8 (encC ((finR s).2.map Int.toNat))).toArray.size≤600
  rw[List.size_toArray,b8_length]
  exact encC_600 (encOk_yes HA.out h2)
 obtain ⟨T,hTT⟩: ∃T:ByteArray,⟨(b8 (encC ((finR s).2.map Int.toNat))).toArray⟩=T:=⟨_,rfl⟩
 rw[hTT]at HE HX hz
 clear hT h2 hTT
 go_enter Tryz.func106,Tryz.ntmps106
 go_wp2_with fail
 refine CR.out.mono ?_
 rintro e wa (⟨_,va,rfl,oa,ba⟩|⟨hn,_⟩)
 ·go_wp2_with fail
  refine (implEncRunes _ _ _ _ HA.out HL.out oa).mono ?_
  rintro e wb ⟨rfl,bb⟩
  rw[HE.out]
  have B:=ba.trans (bb.mono ba.size)
  clear oa ba bb CR
  go_wp2_with fail
  go_ret2
  refine ⟨?_,B⟩
  rw[←HX.out]
  rfl
 exact absurd h1 hn
theorem implCodeLabel_no(s:ByteArray)(w:World)(hs:s.size≤1048576)(hT:Lib.Utf8Tabs 2 3 w)(h: ¬((finR s).1=s.size∧(finR s).2.length≤60)):
  Calls Tryz.prog 106 #[.string s] w fun e w'=>(∃t:ByteArray,e=.returned (.tuple #[.string t,.bool false]))∧Below w.heap.size w w':=by
 have CR:Hid (Calls Tryz.prog 120 #[.string s] w fun e w'=>RunesPost s w e w'):=implRunes s w hs hT
 have HA:Hid ((finR s).1=s.size→allOk (finR s).2):=fun h1=>fin_allOk s h1
 have HL:Hid ((finR s).2.length≤1048576):=by have:=fin_len s;show _≤_;omega
 have HE:Hid ((finR s).1=s.size→encAns (finR s).2=.tuple #[.string ⟨#[]⟩,.bool false]):=fun h1=>if_neg (fun h2=>h ⟨h1,h2⟩)
 clear hT h
 go_enter Tryz.func106,Tryz.ntmps106
 go_wp2_with fail
 refine CR.out.mono ?_
 rintro e wa (⟨h1,va,rfl,oa,ba⟩|⟨_,va,rfl,_,ba⟩)
 ·go_wp2_with fail
  refine (implEncRunes _ _ _ _ (HA.out h1) HL.out oa).mono ?_
  rintro e wb ⟨rfl,bb⟩
  rw[HE.out h1]
  have B:=ba.trans (bb.mono ba.size)
  clear oa ba bb CR
  go_wp2_with fail
  go_ret2
  exact ⟨⟨_,rfl⟩,B⟩
 clear CR
 go_wp2_with fail
 go_ret2
 exact ⟨⟨_,rfl⟩,ba⟩
end Go.Proofs.YtijliddchoehhaaGreatDoor
