/- PctWalk, UnWalk, PutPct, PercentWalk, PlainlyWalk, DotSpec, KeepBox. -/
import Derived.Deep.RegionLaw
import Derived.Test.YtgcbaphbiaimoaaGreatDoorQP16
import Derived.RangeFuncBox
set_option maxHeartbeats 4000000
namespace Go.Proofs.YtgcbaphbiaimoaaGreatDoor
open Go.RowKit
theorem zaez{B:Nat}{w w':World}(h:Below B w w')(n:Nat):Below B w (w'.drewN n):=⟨h.os,h.tape,h.output,h.size,h.block⟩
theorem zh1z{s:ByteArray}{k:Nat}(h:k+2<s.size)(h1:s[k].toNat≠37):yaz s k= -1:=by
 rw[jHz s k h]
 unfold x0z
 rw[if_neg (fun h=>h1 h.1)]
theorem zh2z{s:ByteArray}{k d1 d2:Nat}(h:k+2<s.size)(h1:s[k].toNat=37)(e1:s[k+1].toNat=d1)(e2:s[k+2].toNat=d2):yaz s k=if 0≤zEz d1∧0≤zEz d2 then zEz d1*16+zEz d2 else-1:=by
 rw[jHz s k h,e1,e2]
 unfold x0z
 simp[h1]
theorem zezz(P:Program)(t:TypeId)(h:P.underlying t=some .string)(s:ByteArray)(i:Int)(j d:Nat)(hj:j<s.size)(hi:i=(j:Int))(hd:s[j].toNat=d)(W:World):
  (Instr.index t (.string s) (.int .i64 i)).run P W=.ok (.int .u8 (d:Int)) W:=by
 subst hi
 rw[run_index_string W t s .i64 _ h,dif_pos (by omega)]
 simp[hd]
theorem zh3z(s:ByteArray)(k:Nat)(w:World)(hk:k<s.size)(hs:s.size≤1099511627776):
  Calls Tryz.prog 156 #[.string s,.int .i64 (k:Int)] w fun e w'=>e=.returned (.int .i64 (yaz s k))∧Below w.heap.size w w':=by
 have hki:(k:Int)≤1099511627776:=by omega
 have hk0:0≤(k:Int):=by omega
 have hw1:IntKind.i64.wrap ((k:Int)+1)=((k+1:Nat):Int):=by rw[IntKind.wrap_i64];omega
 have hw2:IntKind.i64.wrap ((k:Int)+2)=((k+2:Nat):Int):=by rw[IntKind.wrap_i64];omega
 by_cases h2:k+2<s.size
 ·have h2i: ¬(s.size:Int)≤(k:Int)+2:=by omega
  by_cases h37:s[k].toNat=37
  ·obtain ⟨d1,e1⟩: ∃d:Nat,s[k+1].toNat=d:=⟨_,rfl⟩
   obtain ⟨d2,e2⟩: ∃d:Nat,s[k+2].toNat=d:=⟨_,rfl⟩
   have i1:=zezz Tryz.prog 9 Tryz.underlying9 s ((k:Int)+1) (k+1) d1 (by omega) (by omega) e1
   have i2:=zezz Tryz.prog 9 Tryz.underlying9 s ((k:Int)+2) (k+2) d2 (by omega) (by omega) e2
   have b1:d1≤255:=by have:=s[k+1].toNat_lt;omega
   have b2:d2≤255:=by have:=s[k+2].toNat_lt;omega
   have HV:Hid (yaz s k=if 0≤zEz d1∧0≤zEz d2 then zEz d1*16+zEz d2 else-1):=zh2z h2 h37 e1 e2
   have c1:=fun n:Nat=>Calls.quiet_of_same (w:=w) (n:=n) (v:=.int .i64 (zEz d1)) ((zfgz d1 (w.drewN n) b1).mono fun _ _ ⟨a,b⟩=>⟨a,b.symm⟩)
   have c2:=fun n:Nat=>Calls.quiet_of_same (w:=w) (n:=n) (v:=.int .i64 (zEz d2)) ((zfgz d2 (w.drewN n) b2).mono fun _ _ ⟨a,b⟩=>⟨a,b.symm⟩)
   have l1:=xSz d1
   have l2:=xSz d2
   generalize zEz d1=x at HV c1 l1
   generalize zEz d2=y at HV c2 l2
   have C1:Hid (∀n,Calls Tryz.prog 215 #[.int .u8 (d1:Int)] (w.drewN n) fun e w''=>e=.returned (.int .i64 x)∧ ∃m,w''=w.drewN m):=c1
   have C2:Hid (∀n,Calls Tryz.prog 215 #[.int .u8 (d2:Int)] (w.drewN n) fun e w''=>e=.returned (.int .i64 y)∧ ∃m,w''=w.drewN m):=c2
   clear c1 c2
   obtain ⟨l1a,l1b⟩:=l1
   obtain ⟨l2a,l2b⟩:=l2
   by_cases hx:0≤x
   ·by_cases hy:0≤y
    ·go_enter Tryz.func156,Tryz.ntmps156
     go_wp2_with fail
     go_quiet ((go_at_call 215;first|with_reducible exact C1.out _|with_reducible exact C2.out _))
     go_wp2
     go_ret
     exact ⟨znz (by rw[HV.out,if_pos ⟨hx,hy⟩]),zaez (Below.refl _ _) _⟩
    go_enter Tryz.func156,Tryz.ntmps156
    go_wp2_with fail
    go_quiet ((go_at_call 215;first|with_reducible exact C1.out _|with_reducible exact C2.out _))
    go_wp2
    go_ret
    exact ⟨znz (by rw[HV.out,if_neg (by omega)]),zaez (Below.refl _ _) _⟩
   go_enter Tryz.func156,Tryz.ntmps156
   go_wp2_with fail
   go_quiet ((go_at_call 215;first|with_reducible exact C1.out _|with_reducible exact C2.out _))
   go_wp2
   go_ret
   exact ⟨znz (by rw[HV.out,if_neg (by omega)]),zaez (Below.refl _ _) _⟩
  have HV:Hid (yaz s k= -1):=zh1z h2 h37
  obtain ⟨d0,e0⟩: ∃d:Nat,s[k].toNat=d:=⟨_,rfl⟩
  have hne: ¬(d0:Int)=37:=by omega
  clear h37
  go_enter Tryz.func156,Tryz.ntmps156
  go_wp2
  go_ret
  exact ⟨znz (by rw[HV.out]),Below.refl _ _⟩
 have h2i:(s.size:Int)≤(k:Int)+2:=by omega
 have HV:Hid (yaz s k= -1):=zazz s k (by omega)
 go_enter Tryz.func156,Tryz.ntmps156
 go_wp2
 go_ret
 exact ⟨znz (by rw[HV.out]),Below.refl _ _⟩
theorem zkJz(s:ByteArray)(k:Nat)(w:World)(hk:k<s.size)(hs:s.size≤1099511627776):
  Calls Tryz.prog 89 #[.string s,.int .i64 (k:Int)] w fun e w'=>e=.returned (.int .i64 (yaz s k))∧Below w.heap.size w w':=by
 have hki:(k:Int)≤1099511627776:=by omega
 have hk0:0≤(k:Int):=by omega
 have hw1:IntKind.i64.wrap ((k:Int)+1)=((k+1:Nat):Int):=by rw[IntKind.wrap_i64];omega
 have hw2:IntKind.i64.wrap ((k:Int)+2)=((k+2:Nat):Int):=by rw[IntKind.wrap_i64];omega
 by_cases h2:k+2<s.size
 ·have h2i: ¬(s.size:Int)≤(k:Int)+2:=by omega
  by_cases h37:s[k].toNat=37
  ·obtain ⟨d1,e1⟩: ∃d:Nat,s[k+1].toNat=d:=⟨_,rfl⟩
   obtain ⟨d2,e2⟩: ∃d:Nat,s[k+2].toNat=d:=⟨_,rfl⟩
   have i1:=zezz Tryz.prog 9 Tryz.underlying9 s ((k:Int)+1) (k+1) d1 (by omega) (by omega) e1
   have i2:=zezz Tryz.prog 9 Tryz.underlying9 s ((k:Int)+2) (k+2) d2 (by omega) (by omega) e2
   have b1:d1≤255:=by have:=s[k+1].toNat_lt;omega
   have b2:d2≤255:=by have:=s[k+2].toNat_lt;omega
   have HV:Hid (yaz s k=if 0≤zEz d1∧0≤zEz d2 then zEz d1*16+zEz d2 else-1):=zh2z h2 h37 e1 e2
   have c1:=fun n:Nat=>Calls.quiet_of_same (w:=w) (n:=n) (v:=.int .i64 (zEz d1)) ((zb2z d1 (w.drewN n) (by omega)).mono fun _ _ ⟨a,b⟩=>⟨a,b.symm⟩)
   have c2:=fun n:Nat=>Calls.quiet_of_same (w:=w) (n:=n) (v:=.int .i64 (zEz d2)) ((zb2z d2 (w.drewN n) (by omega)).mono fun _ _ ⟨a,b⟩=>⟨a,b.symm⟩)
   have q1:=fun W:World=>zb2z d1 W (by omega)
   have q2:=fun W:World=>zb2z d2 W (by omega)
   have l1:=xSz d1
   have l2:=xSz d2
   generalize zEz d1=x at HV c1 l1 q1
   generalize zEz d2=y at HV c2 l2 q2
   have C1:Hid (∀n,Calls Tryz.prog 113 #[.int .u8 (d1:Int)] (w.drewN n) fun e w''=>e=.returned (.int .i64 x)∧ ∃m,w''=w.drewN m):=c1
   have C2:Hid (∀n,Calls Tryz.prog 113 #[.int .u8 (d2:Int)] (w.drewN n) fun e w''=>e=.returned (.int .i64 y)∧ ∃m,w''=w.drewN m):=c2
   have D1:Hid (∀W,CS 113 #[.int .u8 (d1:Int)] W (.int .i64 x)):=q1
   have D2:Hid (∀W,CS 113 #[.int .u8 (d2:Int)] W (.int .i64 y)):=q2
   clear c1 c2 q1 q2
   obtain ⟨l1a,l1b⟩:=l1
   obtain ⟨l2a,l2b⟩:=l2
   by_cases hx:0≤x
   ·by_cases hy:0≤y
    ·go_enter Tryz.func89,Tryz.ntmps89
     go_wp2_with fail
     refine (D1.out _).mono ?_
     rintro e w' ⟨rfl,rfl⟩
     go_wp2_with fail
     refine (D2.out _).mono ?_
     rintro e w' ⟨rfl,rfl⟩
     go_wp2_with fail
     go_quiet ((go_at_call 113;first|with_reducible exact C1.out _|with_reducible exact C2.out _))
     go_wp2
     go_ret
     exact ⟨znz (by rw[HV.out,if_pos ⟨hx,hy⟩]),zaez (Below.refl _ _) _⟩
    go_enter Tryz.func89,Tryz.ntmps89
    go_wp2_with fail
    refine (D1.out _).mono ?_
    rintro e w' ⟨rfl,rfl⟩
    go_wp2_with fail
    refine (D2.out _).mono ?_
    rintro e w' ⟨rfl,rfl⟩
    go_wp2
    go_ret
    exact ⟨znz (by rw[HV.out,if_neg (by omega)]),Below.refl _ _⟩
   go_enter Tryz.func89,Tryz.ntmps89
   go_wp2_with fail
   refine (D1.out _).mono ?_
   rintro e w' ⟨rfl,rfl⟩
   go_wp2
   go_ret
   exact ⟨znz (by rw[HV.out,if_neg (by omega)]),Below.refl _ _⟩
  have HV:Hid (yaz s k= -1):=zh1z h2 h37
  obtain ⟨d0,e0⟩: ∃d:Nat,s[k].toNat=d:=⟨_,rfl⟩
  have hne: ¬(d0:Int)=37:=by omega
  clear h37
  go_enter Tryz.func89,Tryz.ntmps89
  go_wp2
  go_ret
  exact ⟨znz (by rw[HV.out]),Below.refl _ _⟩
 have h2i:(s.size:Int)≤(k:Int)+2:=by omega
 have HV:Hid (yaz s k= -1):=zazz s k (by omega)
 go_enter Tryz.func89,Tryz.ntmps89
 go_wp2
 go_ret
 exact ⟨znz (by rw[HV.out]),Below.refl _ _⟩
theorem x8z{w1:World}{B:Nat}{e:TypeId}{v:Value}{o:List UInt8}{x:Int}(c:UInt8)(hx:x=(c.toNat:Int))
  (h:w1.ownsRow B e 1 v (o.length+1) (zcz o++ #[Value.int .u8 x].toList)):w1.ownsRow B e 1 v (o++[c]).length (zcz (o++[c])):=by
 subst hx
 rw[vWz,List.length_append]
 exact h
theorem x9z(x:Int): ∀u∈ #[Value.int .u8 x].toList,u.oneCell'=true:=by
 intro u hu;simp at hu;subst hu;rfl
theorem zh4z{c:Int}(h0:0≤c)(h1:c≤255):c=((UInt8.ofNat c.toNat).toNat:Int):=by
 have:(UInt8.ofNat c.toNat).toNat=c.toNat%256:=by simp
 omega
theorem zqBz(s:ByteArray)(k:Nat)(o:List UInt8)(h:0≤yaz s k)(he:o++unL (s.data.toList.drop k)=unL s.data.toList):
  (o++[UInt8.ofNat (yaz s k).toNat])++unL (s.data.toList.drop (k+3))=unL s.data.toList:=by
 rw[←he]
 unfold unL
 rw[zffz _ _ s k h]
 simp
theorem znqz(s:ByteArray)(k:Nat)(hk:k<s.size)(o:List UInt8)(h:yaz s k<0)(he:o++unL (s.data.toList.drop k)=unL s.data.toList):
  (o++[s[k]])++unL (s.data.toList.drop (k+1))=unL s.data.toList:=by
 rw[←he]
 unfold unL
 rw[zc8z _ _ s k hk h]
 simp
theorem zqCz(s:ByteArray)(k:Nat)(hk:s.size≤k)(o:List UInt8)(he:o++unL (s.data.toList.drop k)=unL s.data.toList):o=unL s.data.toList:=by
 rw[←he]
 unfold unL
 rw[zmQz _ _ s k hk]
 simp
theorem zg9z(s:ByteArray)(w:World)(hs:s.size≤1099511627776):
  Calls Tryz.prog 115 #[.string s] w fun e w'=>e=.returned (.string ⟨(unL s.data.toList).toArray⟩)∧Below w.heap.size w w':=by
 go_enter Tryz.func115,Tryz.ntmps115
 go_wp2
 go_loopw[3,4] (fun v i wr=> ∃(k:Nat) (o:List UInt8),k≤s.size∧i=.int .i64 k∧o.length≤k∧wr.ownsRow w.heap.size 5 1 v o.length (zcz o)∧o++unL (s.data.toList.drop k)=unL s.data.toList∧Below w.heap.size w wr)
  (fun _ i _=>s.size-(intOf i).toNat)
 case atStart=>exact ⟨0,[],Nat.zero_le _,rfl,Nat.zero_le _,World.ownsRow_lit w #[] 0 (Nat.le_refl _) (by decide) rfl,rfl,(Below.refl _ _).alloc (Nat.le_refl _) _⟩
 obtain ⟨k,o,hk,rfl,hol,hown,he,hbel⟩:=hrel
 have HE:Hid (o++unL (s.data.toList.drop k)=unL s.data.toList):=he
 clear he
 have hsz:=hbel.size
 by_cases hlt:k<s.size
 ·have hct:=fun W=>zkJz s k W hlt hs
  have hcl:=zbxz s k
  by_cases hc:0≤yaz s k
  ·have HN:Hid ((o++[UInt8.ofNat (yaz s k).toNat])++unL (s.data.toList.drop (k+3))=unL s.data.toList):=zqBz s k o hc HE.out
   have hk3:=zaAz hc
   generalize yaz s k=c at hct hcl hc HN
   obtain ⟨hc0,hc1⟩:=hcl
   have HC:Hid (∀W,CB 89 #[.string s,.int .i64 (k:Int)] W (.int .i64 c)):=hct
   clear hct
   go_wp2_with fail
   refine (HC.out _).mono ?_
   rintro e wb ⟨rfl,bb⟩
   have ob:=zjz hown bb
   have hsb:=bb.size
   go_wp2_with (at_builtin;refine zbz _ rfl _ _ 22 rfl w.heap.size 5 (.int .u8 0) 1 Tryz.underlying22 Tryz.info5 rfl _ _ _ rfl ob #[.int .u8 c] 1 rfl rfl (x9z _) (by omega) (by unfold maxLen;omega) (by omega) ?_)
   intro v' w1 hown' hb1
   have R:=x8z _ (zh4z hc hc1) hown'
   have B1:Below w.heap.size w w1:=(hbel.trans (bb.mono hsz)).trans hb1
   clear hown' hb1 hown hbel ob bb
   go_wp2
   go_roundw
   case rel=>exact ⟨k+3,_,by omega,by go_num,by simp;omega,R,HN.out,B1⟩
   case measure=>simp[intOf];omega
  have HN:Hid ((o++[s[k]])++unL (s.data.toList.drop (k+1))=unL s.data.toList):=znqz s k hlt o (by omega) HE.out
  generalize yaz s k=c at hct hcl hc
  obtain ⟨hc0,hc1⟩:=hcl
  have HC:Hid (∀W,CB 89 #[.string s,.int .i64 (k:Int)] W (.int .i64 c)):=hct
  clear hct
  go_wp2_with fail
  refine (HC.out _).mono ?_
  rintro e wb ⟨rfl,bb⟩
  have ob:=zjz hown bb
  have hsb:=bb.size
  go_wp2_with (at_builtin;refine zbz _ rfl _ _ 22 rfl w.heap.size 5 (.int .u8 0) 1 Tryz.underlying22 Tryz.info5 rfl _ _ _ rfl ob #[.int .u8 (s[k].toNat:Int)] 1 rfl rfl (x9z _) (by omega) (by unfold maxLen;omega) (by omega) ?_)
  intro v' w1 hown' hb1
  have R:=x8z s[k] rfl hown'
  have B1:Below w.heap.size w w1:=(hbel.trans (bb.mono hsz)).trans hb1
  clear hown' hb1 hown hbel ob bb
  go_wp2
  go_roundw
  case rel=>exact ⟨k+1,_,by omega,by go_num,by simp;omega,R,HN.out,B1⟩
  case measure=>simp[intOf];omega
 have HO:=zzz (P:=Tryz.prog) wr 22 9 5 Tryz.underlying22 Tryz.underlying5 Tryz.underlying9 hown
 go_wp2
 go_ret
 exact ⟨j2z (zqCz s k (by omega) o HE.out),hbel⟩
theorem zcyz(s:ByteArray)(w:World)(hs:s.size≤1099511627776):
  Calls Tryz.prog 186 #[.string s] w fun e w'=>e=.returned (.string ⟨(unL s.data.toList).toArray⟩)∧Below w.heap.size w w':=by
 obtain ⟨i0,hi,hz0,hz1,hz2⟩:=info_parts Tryz.info5
 go_enter Tryz.func186,Tryz.ntmps186
 go_wp2_with (at_make;refine wpList_make_own _ rfl _ _ 22 rfl w.heap.size 5 i0 (.int .u8 0) 1 Tryz.underlying22 hi hz0 hz1 _ _ _ s.size rfl rfl (by omega) (by rw[hz2];omega) (by unfold maxLen;omega) (Nat.le_refl _) ?_)
 intro wm hmo hgm
 have Bm:Below w.heap.size w wm:=(Below.refl _ _).grown hgm (Nat.le_refl _) (fun k hk=>by cases hk)
 clear hgm
 go_wp2
 go_loopw[3,4] (fun v i wr=> ∃(k:Nat) (o:List UInt8),k≤s.size∧i=.int .i64 k∧o.length≤k∧wr.ownsRow w.heap.size 5 1 v o.length (zcz o)∧o++unL (s.data.toList.drop k)=unL s.data.toList∧Below w.heap.size w wr)
  (fun _ i _=>s.size-(intOf i).toNat)
 case atStart=>exact ⟨0,[],Nat.zero_le _,rfl,Nat.zero_le _,hmo,rfl,Bm⟩
 clear hmo Bm hi hz0 hz1 hz2
 obtain ⟨k,o,hk,rfl,hol,hown,he,hbel⟩:=hrel
 have HE:Hid (o++unL (s.data.toList.drop k)=unL s.data.toList):=he
 clear he
 have hsz:=hbel.size
 by_cases hlt:k<s.size
 ·have hct:=fun W=>zh3z s k W hlt hs
  have hcl:=zbxz s k
  by_cases hc:0≤yaz s k
  ·have HN:Hid ((o++[UInt8.ofNat (yaz s k).toNat])++unL (s.data.toList.drop (k+3))=unL s.data.toList):=zqBz s k o hc HE.out
   have hk3:=zaAz hc
   generalize yaz s k=c at hct hcl hc HN
   obtain ⟨hc0,hc1⟩:=hcl
   have HC:Hid (∀W,CB 156 #[.string s,.int .i64 (k:Int)] W (.int .i64 c)):=hct
   clear hct
   go_wp2_with fail
   refine (HC.out _).mono ?_
   rintro e wb ⟨rfl,bb⟩
   have ob:=zjz hown bb
   have hsb:=bb.size
   go_wp2_with (at_builtin;refine zbz _ rfl _ _ 22 rfl w.heap.size 5 (.int .u8 0) 1 Tryz.underlying22 Tryz.info5 rfl _ _ _ rfl ob #[.int .u8 c] 1 rfl rfl (x9z _) (by omega) (by unfold maxLen;omega) (by omega) ?_)
   intro v' w1 hown' hb1
   have R:=x8z _ (zh4z hc hc1) hown'
   have B1:Below w.heap.size w w1:=(hbel.trans (bb.mono hsz)).trans hb1
   clear hown' hb1 hown hbel ob bb
   go_wp2
   go_roundw
   case rel=>exact ⟨k+3,_,by omega,by go_num,by simp;omega,R,HN.out,B1⟩
   case measure=>simp[intOf];omega
  have HN:Hid ((o++[s[k]])++unL (s.data.toList.drop (k+1))=unL s.data.toList):=znqz s k hlt o (by omega) HE.out
  generalize yaz s k=c at hct hcl hc
  obtain ⟨hc0,hc1⟩:=hcl
  have HC:Hid (∀W,CB 156 #[.string s,.int .i64 (k:Int)] W (.int .i64 c)):=hct
  clear hct
  go_wp2_with fail
  refine (HC.out _).mono ?_
  rintro e wb ⟨rfl,bb⟩
  have ob:=zjz hown bb
  have hsb:=bb.size
  go_wp2_with (at_builtin;refine zbz _ rfl _ _ 22 rfl w.heap.size 5 (.int .u8 0) 1 Tryz.underlying22 Tryz.info5 rfl _ _ _ rfl ob #[.int .u8 (s[k].toNat:Int)] 1 rfl rfl (x9z _) (by omega) (by unfold maxLen;omega) (by omega) ?_)
  intro v' w1 hown' hb1
  have R:=x8z s[k] rfl hown'
  have B1:Below w.heap.size w w1:=(hbel.trans (bb.mono hsz)).trans hb1
  clear hown' hb1 hown hbel ob bb
  go_wp2
  go_roundw
  case rel=>exact ⟨k+1,_,by omega,by go_num,by simp;omega,R,HN.out,B1⟩
  case measure=>simp[intOf];omega
 have HO:=zzz (P:=Tryz.prog) wr 22 9 5 Tryz.underlying22 Tryz.underlying5 Tryz.underlying9 hown
 go_wp2
 go_ret
 exact ⟨j2z (zqCz s k (by omega) o HE.out),hbel⟩
theorem zaSz{P:Program}{w:World}{ops:Array Oper}{o:Oper}{a:Act}{K:Act→World→Prop}{Q:Exit→Act→World→Prop}{E:Prop}(hg:o.guard=none)(s x:Operand)(t:TypeId)
  (hop:o.op=.call {callee:=.builtin .append,args:= #[s,x],argTypes:= #[t,t]})
  (B:Nat) (e:TypeId) (z:Value) (bytes:Nat) (ht:P.underlying t=some (.slice e)) (hinfo:(P.info? e).map (fun i=>(i.zero,i.size,i.bytes))=some (some z,1,bytes)) (hz:z.cells.size=1)
  (v:Value) (n:Nat) (xs:List Value) (hs:a.eval s=v) (hown:w.ownsRow B e 1 v n xs)
  (ad:Addr) (m c:Nat) (news:List Value) (hx:a.eval x=.slice (some ad) m c) (hl:news.length=m*1) (hnews: ∀j u,news[j]? =some u→w.cell? (ad.add j)=some u) (h1: ∀u∈news,u.oneCell'=true)
  (h63:n+m≤maxLen) (hbytes:(n+m)*bytes≤140737488355328) (hbase:B≤w.heap.size)
  (hK: ∀v' w',w'.ownsRow B e 1 v' (n+m) (xs++news)→w.grownBy w' v.ownBlock→K (a.put o.dst v') w'):
  if Region.wanted o (yielded ops a.tmps)=true then Oper.wp P o a w K Q else E:=by
 obtain ⟨i0,hi,hz0,hz1,hz2⟩:=info_parts hinfo
 have hw:Region.wanted o (yielded ops a.tmps)=true:=by simp[Region.wanted,hg]
 rw[if_pos hw]
 exact wp_append_own w s x t hop B e i0 z 1 bytes ht hi hz0 hz1 hz2 hz (by decide) v n xs hs hown ad m c news hx hl hnews h1 h63 hbytes hbase fun v' w' a b _=>hK v' w' a b
def zqDz:ByteArray:=⟨#[48,49,50,51,52,53,54,55,56,57,65,66,67,68,69,70]⟩
theorem ztIz: ∀n,(h:n<16)→(zqDz[n]'h).toNat=(digU n).toNat:=by decide+kernel
theorem zfwz(P:Program)(t:TypeId)(h:P.underlying t=some .string)(k:IntKind)(n:Nat)(hn:n<16)(i:Int)(hi:i=(n:Int))(W:World):
  (Instr.index t (.string ⟨#[48,49,50,51,52,53,54,55,56,57,65,66,67,68,69,70]⟩) (.int k i)).run P W=.ok (.int .u8 ((digU n).toNat:Int)) W:=by
 subst hi
 have hs:(⟨#[48,49,50,51,52,53,54,55,56,57,65,66,67,68,69,70]⟩:ByteArray).size=16:=rfl
 rw[run_index_string W t _ k _ h,dif_pos (by omega)]
 simp only[Int.toNat_natCast]
 exact congrArg (fun d:Nat=>Result.ok (Value.int .u8 (d:Int)) W) (ztIz n hn)
theorem zh5z: ∀n:Nat,n<256→bits .and .u8 (n:Int) 15=(n:Int)%16:=by decide+kernel
theorem znrz{w1:World}{B:Nat}{e:TypeId}{v:Value}{o:List UInt8}(c:UInt8){x y:Int}(hx:x=((digU (c.toNat/16)).toNat:Int))(hy:y=((digU (c.toNat%16)).toNat:Int))
  (h:w1.ownsRow B e 1 v (o.length+3) (zcz o++[Value.int .u8 37,.int .u8 x,.int .u8 y])):w1.ownsRow B e 1 v (o++putB c).length (zcz (o++putB c)):=by
 subst hx hy
 rw[xhz,List.length_append]
 exact h
theorem zczz(c:UInt8)(d:Nat)(hd:c.toNat=d)(v:Value)(o:List UInt8)(B:Nat)(w:World)(hown:w.ownsRow B 5 1 v o.length (zcz o))(hB:B≤w.heap.size)(hl:o.length≤1099511627776):
  Calls Tryz.prog 159 #[v,.int .u8 (d:Int)] w fun e w'=> ∃v',e=.returned v'∧w'.ownsRow B 5 1 v' (o++putB c).length (zcz (o++putB c))∧Below B w w':=by
 have hd1:(d:Int)≤255:=by have:=c.toNat_lt;omega
 have hd0:0≤(d:Int):=by omega
 have hb:=zh5z d (by omega)
 have i1:=zfwz Tryz.prog 9 Tryz.underlying9 .u8 (d/16) (by omega) ((d:Int)/16) (by omega)
 have i2:=zfwz Tryz.prog 9 Tryz.underlying9 .u8 (d%16) (by omega) ((d:Int)%16) (by omega)
 obtain ⟨p,hp⟩: ∃p:Int,((digU (d/16)).toNat:Int)=p:=⟨_,rfl⟩
 obtain ⟨q,hq⟩: ∃q:Int,((digU (d%16)).toNat:Int)=q:=⟨_,rfl⟩
 rw[hp]at i1
 rw[hq]at i2
 have HP:Hid (p=((digU (c.toNat/16)).toNat:Int)):=by show _=_;rw[hd,hp]
 have HQ:Hid (q=((digU (c.toNat%16)).toNat:Int)):=by show _=_;rw[hd,hq]
 clear hp hq
 have HA:Hid ((w.alloc (.cells #[.int .u8 37,.int .u8 p,.int .u8 q] 5)).drew.ownsRow B 5 1 v o.length (zcz o)):=hown.alloc _
 have HN:Hid (∀j u,[Value.int .u8 37,.int .u8 p,.int .u8 q][j]? =some u→(w.alloc (.cells #[.int .u8 37,.int .u8 p,.int .u8 q] 5)).drew.cell? ((⟨w.heap.size,0,none⟩:Addr).add j)=some u):=by
  intro j u hj
  show (w.alloc (.cells #[.int .u8 37,.int .u8 p,.int .u8 q] 5)).cell? _=_
  rw[Addr.add_lit,Nat.zero_add,World.cell?_alloc_at _ _ _ _ rfl]
  simpa using hj
 have H1:Hid (∀u∈[Value.int .u8 37,.int .u8 p,.int .u8 q],u.oneCell'=true):=by
  intro u hu
  simp at hu
  rcases hu with rfl|rfl|rfl<;>rfl
 have HB:Hid (∀w1:World,(w.alloc (.cells #[.int .u8 37,.int .u8 p,.int .u8 q] 5)).drew.grownBy w1 v.ownBlock→Below B w w1):=fun w1 hg=>
  (((Below.refl B w).alloc hB _).drew).grown hg (by simp;omega) (fun k hk=>(hown.lt k hk).1)
 have HL:Hid (B≤(w.alloc (.cells #[.int .u8 37,.int .u8 p,.int .u8 q] 5)).drew.heap.size):=by show B≤_;simp;omega
 go_enter Tryz.func159,Tryz.ntmps159
 go_wp2_with fail
 go_region_law ((refine zaSz rfl (.tmp 5) (.tmp 12) 22 rfl B 5 (.int .u8 0) 1 Tryz.underlying22 Tryz.info5 rfl v o.length (zcz o) rfl HA.out ⟨w.heap.size,0,none⟩ 3 3 [.int .u8 37,.int .u8 p,.int .u8 q] rfl rfl HN.out H1.out (by unfold maxLen;omega) (by omega) HL.out ?_;intro v' w1 hown' hgrow))
 all_goals
  go_wp2
  go_ret
  exact ⟨_,rfl,znrz c HP.out HQ.out hown',HB.out _ hgrow⟩
theorem znsz(c:UInt8)(d:Nat)(hd:c.toNat=d)(v:Value)(o:List UInt8)(B:Nat)(w:World)(hown:w.ownsRow B 5 1 v o.length (zcz o))(hB:B≤w.heap.size)(hl:o.length≤1099511627776):
  Calls Tryz.prog 92 #[v,.int .u8 (d:Int)] w fun e w'=> ∃v',e=.returned v'∧w'.ownsRow B 5 1 v' (o++putB c).length (zcz (o++putB c))∧Below B w w':=by
 have hd1:(d:Int)≤255:=by have:=c.toNat_lt;omega
 have hd0:0≤(d:Int):=by omega
 have hb:=zh5z d (by omega)
 have i1:=zfwz Tryz.prog 9 Tryz.underlying9 .u8 (d/16) (by omega) ((d:Int)/16) (by omega)
 have i2:=zfwz Tryz.prog 9 Tryz.underlying9 .u8 (d%16) (by omega) ((d:Int)%16) (by omega)
 obtain ⟨p,hp⟩: ∃p:Int,((digU (d/16)).toNat:Int)=p:=⟨_,rfl⟩
 obtain ⟨q,hq⟩: ∃q:Int,((digU (d%16)).toNat:Int)=q:=⟨_,rfl⟩
 rw[hp]at i1
 rw[hq]at i2
 have HP:Hid (p=((digU (c.toNat/16)).toNat:Int)):=by show _=_;rw[hd,hp]
 have HQ:Hid (q=((digU (c.toNat%16)).toNat:Int)):=by show _=_;rw[hd,hq]
 clear hp hq
 have HA:Hid ((w.alloc (.cells #[.int .u8 37,.int .u8 p,.int .u8 q] 5)).drew.ownsRow B 5 1 v o.length (zcz o)):=hown.alloc _
 have HN:Hid (∀j u,[Value.int .u8 37,.int .u8 p,.int .u8 q][j]? =some u→(w.alloc (.cells #[.int .u8 37,.int .u8 p,.int .u8 q] 5)).drew.cell? ((⟨w.heap.size,0,none⟩:Addr).add j)=some u):=by
  intro j u hj
  show (w.alloc (.cells #[.int .u8 37,.int .u8 p,.int .u8 q] 5)).cell? _=_
  rw[Addr.add_lit,Nat.zero_add,World.cell?_alloc_at _ _ _ _ rfl]
  simpa using hj
 have H1:Hid (∀u∈[Value.int .u8 37,.int .u8 p,.int .u8 q],u.oneCell'=true):=by
  intro u hu
  simp at hu
  rcases hu with rfl|rfl|rfl<;>rfl
 have HB:Hid (∀w1:World,(w.alloc (.cells #[.int .u8 37,.int .u8 p,.int .u8 q] 5)).drew.grownBy w1 v.ownBlock→Below B w w1):=fun w1 hg=>
  (((Below.refl B w).alloc hB _).drew).grown hg (by simp;omega) (fun k hk=>(hown.lt k hk).1)
 have HL:Hid (B≤(w.alloc (.cells #[.int .u8 37,.int .u8 p,.int .u8 q] 5)).drew.heap.size):=by show B≤_;simp;omega
 go_enter Tryz.func92,Tryz.ntmps92
 go_wp2_with fail
 go_region_law ((refine zaSz rfl (.tmp 5) (.tmp 12) 22 rfl B 5 (.int .u8 0) 1 Tryz.underlying22 Tryz.info5 rfl v o.length (zcz o) rfl HA.out ⟨w.heap.size,0,none⟩ 3 3 [.int .u8 37,.int .u8 p,.int .u8 q] rfl rfl HN.out H1.out (by unfold maxLen;omega) (by omega) HL.out ?_;intro v' w1 hown' hgrow))
 all_goals
  go_wp2
  go_ret
  exact ⟨_,rfl,znrz c HP.out HQ.out hown',HB.out _ hgrow⟩
theorem zkKz{set:Int}{c:UInt8}(h:yHz set c.toNat=true):xlz set c=[c]:=by unfold xlz;rw[h];rfl
theorem zntz{set:Int}{c:UInt8}(h:yHz set c.toNat=false):xlz set c=putB c:=by unfold xlz;rw[h];rfl
theorem zgqz(c:UInt8)(d:Nat)(hd:c.toNat=d)(set:Int)(v:Value)(o:List UInt8)(B:Nat)(w:World)(hM:xLz w)(hown:w.ownsRow B 5 1 v o.length (zcz o))(hB:B≤w.heap.size)(hl:o.length≤1099511627776):
  Calls Tryz.prog 157 #[v,.int .u8 (d:Int),.int .i64 set] w fun e w'=> ∃v',e=.returned v'∧w'.ownsRow B 5 1 v' (o++xlz set c).length (zcz (o++xlz set c))∧Below B w w':=by
 have hd1:(d:Int)≤255:=by have:=c.toNat_lt;omega
 have hd0:0≤(d:Int):=by omega
 have ck:=zn5z set (d:Int) w hM
 rw[zeiz]at ck
 cases hk:yHz set d with
 |true=>
  have HK:Hid (xlz set c=[c]):=zkKz (by rw[hd];exact hk)
  have HD:Hid ((d:Int)=(c.toNat:Int)):=by show _=_;rw[hd]
  rw[hk]at ck
  have CK:Hid (CS 216 #[.int .i64 set,.int .i64 (d:Int)] w (.bool true)):=ck
  clear ck hk hd hM
  go_enter Tryz.func157,Tryz.ntmps157
  go_wp2_with fail
  refine CK.out.mono ?_
  rintro e w' ⟨rfl,rfl⟩
  go_wp2_with (at_builtin;refine zbz _ rfl _ _ 22 rfl B 5 (.int .u8 0) 1 Tryz.underlying22 Tryz.info5 rfl _ _ _ rfl hown #[.int .u8 (d:Int)] 1 rfl rfl (x9z _) (by omega) (by unfold maxLen;omega) (by omega) ?_)
  intro v' w1 hown' hb1
  have R:=x8z c HD.out hown'
  clear hown'
  go_wp2
  go_ret
  exact ⟨_,rfl,by rw[HK.out];exact R,hb1⟩
 |false=>
  have HK:Hid (xlz set c=putB c):=zntz (by rw[hd];exact hk)
  have HD:Hid (c.toNat=d):=hd
  rw[hk]at ck
  have CK:Hid (CS 216 #[.int .i64 set,.int .i64 (d:Int)] w (.bool false)):=ck
  clear ck hk hd hM
  go_enter Tryz.func157,Tryz.ntmps157
  go_wp2_with fail
  refine CK.out.mono ?_
  rintro e w' ⟨rfl,rfl⟩
  go_wp2_with fail
  refine (zczz c d HD.out _ o B _ hown hB hl).mono ?_
  rintro e w1 ⟨v',rfl,hown',hb1⟩
  go_wp2
  go_ret
  exact ⟨_,rfl,by rw[HK.out];exact hown',hb1⟩
theorem zqEz(set:Int)(s:ByteArray)(k n:Nat)(h:yaz s k=(n:Int))(o:List UInt8)(he:o++plL set (s.data.toList.drop k)=plL set s.data.toList):
  (o++x3z (UInt8.ofNat n))++plL set (s.data.toList.drop (k+3))=plL set s.data.toList:=by
 rw[←he]
 unfold plL
 rw[zffz _ _ s k (by omega),h,List.append_assoc]
 rfl
theorem znuz(set:Int)(s:ByteArray)(k:Nat)(hk:k<s.size)(o:List UInt8)(h:yaz s k<0)(he:o++plL set (s.data.toList.drop k)=plL set s.data.toList):
  (o++xlz set s[k])++plL set (s.data.toList.drop (k+1))=plL set s.data.toList:=by
 rw[←he]
 unfold plL
 rw[zc8z _ _ s k hk h,List.append_assoc]
theorem zqFz(set:Int)(s:ByteArray)(k:Nat)(hk:s.size≤k)(o:List UInt8)(he:o++plL set (s.data.toList.drop k)=plL set s.data.toList):o=plL set s.data.toList:=by
 rw[←he]
 unfold plL
 rw[zmQz _ _ s k hk]
 simp
theorem zh6z(n:Nat):zcxz (n:Int)=yXz n:=by simp[zcxz]
theorem zbTz(s:ByteArray)(set:Int)(w:World)(hM:xLz w)(hs:s.size≤4294967296):
  Calls Tryz.prog 104 #[.string s,.int .i64 set] w fun e w'=>e=.returned (.string ⟨(plL set s.data.toList).toArray⟩)∧Below w.heap.size w w':=by
 have HM:Hid (xLz w):=hM
 clear hM
 obtain ⟨i0,hi,hz0,hz1,hz2⟩:=info_parts Tryz.info5
 go_enter Tryz.func104,Tryz.ntmps104
 go_wp2_with (at_make;refine wpList_make_own _ rfl _ _ 22 rfl w.heap.size 5 i0 (.int .u8 0) 1 Tryz.underlying22 hi hz0 hz1 _ _ _ s.size rfl rfl (by omega) (by rw[hz2];omega) (by unfold maxLen;omega) (Nat.le_refl _) ?_)
 intro wm hmo hgm
 have Bm:Below w.heap.size w wm:=(Below.refl _ _).grown hgm (Nat.le_refl _) (fun k hk=>by cases hk)
 clear hgm
 go_wp2
 go_loopw[5,6] (fun v i wr=> ∃(k:Nat) (o:List UInt8),k≤s.size∧i=.int .i64 k∧o.length≤3*k∧wr.ownsRow w.heap.size 5 1 v o.length (zcz o)∧o++plL set (s.data.toList.drop k)=plL set s.data.toList∧Below w.heap.size w wr)
  (fun _ i _=>s.size-(intOf i).toNat)
 case atStart=>exact ⟨0,[],Nat.zero_le _,rfl,Nat.zero_le _,hmo,rfl,Bm⟩
 clear hmo Bm hi hz0 hz1 hz2
 obtain ⟨k,o,hk,rfl,hol,hown,he,hbel⟩:=hrel
 have HE:Hid (o++plL set (s.data.toList.drop k)=plL set s.data.toList):=he
 clear he
 have hsz:=hbel.size
 by_cases hlt:k<s.size
 ·have hct:=fun W=>zh3z s k W hlt (by omega)
  have hcl:=zbxz s k
  by_cases hc:0≤yaz s k
  ·obtain ⟨n,hn⟩:=Int.eq_ofNat_of_zero_le hc
   have hk3:=zaAz hc
   have HN:Hid ((o++x3z (UInt8.ofNat n))++plL set (s.data.toList.drop (k+3))=plL set s.data.toList):=zqEz set s k n hn o HE.out
   have HT:Hid ((UInt8.ofNat n).toNat=n):=by show _=_;simp;omega
   have HF:Hid (x3z (UInt8.ofNat n)=if yXz n then [UInt8.ofNat n]else putB (UInt8.ofNat n)):=by show _=_;unfold x3z;rw[HT.out]
   rw[hn]at hct hcl
   have hn1:(n:Int)≤255:=hcl.2
   have hn0:0≤(n:Int):=by omega
   have HC:Hid (∀W,CB 156 #[.string s,.int .i64 (k:Int)] W (.int .i64 (n:Int))):=hct
   clear hct hcl hc hn
   cases hf:yXz n with
   |true=>
    rw[hf,if_pos rfl]at HF
    rw[HF.out]at HN
    have ckk:=fun (W:World) (hb:Below w.heap.size w W)=>zbFz n W (HM.out.later hb) hn1
    rw[hf]at ckk
    have CK:Hid (∀W,Below w.heap.size w W→CS 158 #[.int .u8 (n:Int)] W (.bool true)):=ckk
    have HX:Hid ((n:Int)=((UInt8.ofNat n).toNat:Int)):=by show _=_;rw[HT.out]
    clear ckk hf HF
    generalize UInt8.ofNat n=u at HN HT HX
    go_wp2_with fail
    refine (HC.out _).mono ?_
    rintro e wb ⟨rfl,bb⟩
    have ob:=zjz hown bb
    have hsb:=bb.size
    have Bb:Below w.heap.size w wb:=hbel.trans (bb.mono hsz)
    clear bb hbel hown
    go_wp2_with fail
    refine (CK.out _ Bb).mono ?_
    rintro e w' ⟨rfl,rfl⟩
    go_wp2_with (at_builtin;refine zbz _ rfl _ _ 22 rfl w.heap.size 5 (.int .u8 0) 1 Tryz.underlying22 Tryz.info5 rfl _ _ _ rfl ob #[.int .u8 (n:Int)] 1 rfl rfl (x9z _) (by omega) (by unfold maxLen;omega) (by omega) ?_)
    intro v' w1 hown' hb1
    have R:=x8z u HX.out hown'
    have B1:Below w.heap.size w w1:=Bb.trans hb1
    clear hown' hb1 ob Bb
    go_wp2
    go_roundw
    case rel=>exact ⟨k+3,_,by omega,by go_num,by simp;omega,R,HN.out,B1⟩
    case measure=>simp[intOf];omega
   |false=>
    rw[hf,if_neg (by decide)]at HF
    rw[HF.out]at HN
    have ckk:=fun (W:World) (hb:Below w.heap.size w W)=>zbFz n W (HM.out.later hb) hn1
    rw[hf]at ckk
    have CK:Hid (∀W,Below w.heap.size w W→CS 158 #[.int .u8 (n:Int)] W (.bool false)):=ckk
    clear ckk hf HF
    generalize UInt8.ofNat n=u at HN HT
    go_wp2_with fail
    refine (HC.out _).mono ?_
    rintro e wb ⟨rfl,bb⟩
    have ob:=zjz hown bb
    have hsb:=bb.size
    have Bb:Below w.heap.size w wb:=hbel.trans (bb.mono hsz)
    clear bb hbel hown
    go_wp2_with fail
    refine (CK.out _ Bb).mono ?_
    rintro e w' ⟨rfl,rfl⟩
    go_wp2_with fail
    refine (zczz u n HT.out _ o w.heap.size _ ob (by omega) (by omega)).mono ?_
    rintro e w1 ⟨v',rfl,hown',hb1⟩
    have B1:Below w.heap.size w w1:=Bb.trans hb1
    clear hb1 ob Bb
    go_wp2
    go_roundw
    case rel=>exact ⟨k+3,_,by omega,by go_num,by simp[putB];omega,hown',HN.out,B1⟩
    case measure=>simp[intOf];omega
  have HN:Hid ((o++xlz set s[k])++plL set (s.data.toList.drop (k+1))=plL set s.data.toList):=znuz set s k hlt o (by omega) HE.out
  obtain ⟨d,hd⟩: ∃d:Nat,s[k].toNat=d:=⟨_,rfl⟩
  have hd1:(d:Int)≤255:=by have:=s[k].toNat_lt;omega
  have hd0:0≤(d:Int):=by omega
  have HD:Hid (s[k].toNat=d):=hd
  have hkl:=zfDz set s[k]
  generalize yaz s k=c at hct hcl hc
  obtain ⟨hc0,hc1⟩:=hcl
  have HC:Hid (∀W,CB 156 #[.string s,.int .i64 (k:Int)] W (.int .i64 c)):=hct
  clear hct
  go_wp2_with fail
  refine (HC.out _).mono ?_
  rintro e wb ⟨rfl,bb⟩
  have ob:=zjz hown bb
  have hsb:=bb.size
  have Bb:Below w.heap.size w wb:=hbel.trans (bb.mono hsz)
  clear bb hbel hown
  go_wp2_with fail
  refine (zgqz s[k] d HD.out set _ o w.heap.size _ (HM.out.later Bb) ob (by omega) (by omega)).mono ?_
  rintro e w1 ⟨v',rfl,hown',hb1⟩
  have B1:Below w.heap.size w w1:=Bb.trans hb1
  clear hb1 ob Bb
  go_wp2
  go_roundw
  case rel=>exact ⟨k+1,_,by omega,by go_num,by rw[List.length_append];omega,hown',HN.out,B1⟩
  case measure=>simp[intOf];omega
 have HO:=zzz (P:=Tryz.prog) wr 22 9 5 Tryz.underlying22 Tryz.underlying5 Tryz.underlying9 hown
 go_wp2
 go_ret
 exact ⟨j2z (zqFz set s k (by omega) o HE.out),hbel⟩
theorem zeTz(s:ByteArray)(set:Int)(w:World)(hs:s.size≤4294967296):
  Calls Tryz.prog 41 #[.string s,.int .i64 set] w fun e w'=>e=.returned (.string ⟨(plL set s.data.toList).toArray⟩)∧Below w.heap.size w w':=by
 go_enter Tryz.func41,Tryz.ntmps41
 go_wp2
 go_loopw[5,6] (fun v i wr=> ∃(k:Nat) (o:List UInt8),k≤s.size∧i=.int .i64 k∧o.length≤3*k∧wr.ownsRow w.heap.size 5 1 v o.length (zcz o)∧o++plL set (s.data.toList.drop k)=plL set s.data.toList∧Below w.heap.size w wr)
  (fun _ i _=>s.size-(intOf i).toNat)
 case atStart=>exact ⟨0,[],Nat.zero_le _,rfl,Nat.zero_le _,World.ownsRow_lit w #[] 0 (Nat.le_refl _) (by decide) rfl,rfl,(Below.refl _ _).alloc (Nat.le_refl _) _⟩
 obtain ⟨k,o,hk,rfl,hol,hown,he,hbel⟩:=hrel
 have HE:Hid (o++plL set (s.data.toList.drop k)=plL set s.data.toList):=he
 clear he
 have hsz:=hbel.size
 by_cases hlt:k<s.size
 ·have hct:=fun W=>zkJz s k W hlt (by omega)
  have hcl:=zbxz s k
  by_cases hc:0≤yaz s k
  ·obtain ⟨n,hn⟩:=Int.eq_ofNat_of_zero_le hc
   have hk3:=zaAz hc
   have HN:Hid ((o++x3z (UInt8.ofNat n))++plL set (s.data.toList.drop (k+3))=plL set s.data.toList):=zqEz set s k n hn o HE.out
   have HT:Hid ((UInt8.ofNat n).toNat=n):=by show _=_;simp;omega
   have HF:Hid (x3z (UInt8.ofNat n)=if yXz n then [UInt8.ofNat n]else putB (UInt8.ofNat n)):=by show _=_;unfold x3z;rw[HT.out]
   rw[hn]at hct hcl
   have hn1:(n:Int)≤255:=hcl.2
   have hn0:0≤(n:Int):=by omega
   have HC:Hid (∀W,CB 89 #[.string s,.int .i64 (k:Int)] W (.int .i64 (n:Int))):=hct
   clear hct hcl hc hn
   cases hf:yXz n with
   |true=>
    rw[hf,if_pos rfl]at HF
    rw[HF.out]at HN
    have ckk:=fun (W:World) (_:Below w.heap.size w W)=>zgpz (n:Int) W
    simp only[zh6z,hf]at ckk
    have CK:Hid (∀W,Below w.heap.size w W→CS 91 #[.int .i64 (n:Int)] W (.bool true)):=ckk
    have HX:Hid ((n:Int)=((UInt8.ofNat n).toNat:Int)):=by show _=_;rw[HT.out]
    clear ckk hf HF
    generalize UInt8.ofNat n=u at HN HT HX
    go_wp2_with fail
    refine (HC.out _).mono ?_
    rintro e wb ⟨rfl,bb⟩
    have ob:=zjz hown bb
    have hsb:=bb.size
    have Bb:Below w.heap.size w wb:=hbel.trans (bb.mono hsz)
    clear bb hbel hown
    go_wp2_with fail
    refine (CK.out _ Bb).mono ?_
    rintro e w' ⟨rfl,rfl⟩
    go_wp2_with (at_builtin;refine zbz _ rfl _ _ 22 rfl w.heap.size 5 (.int .u8 0) 1 Tryz.underlying22 Tryz.info5 rfl _ _ _ rfl ob #[.int .u8 (n:Int)] 1 rfl rfl (x9z _) (by omega) (by unfold maxLen;omega) (by omega) ?_)
    intro v' w1 hown' hb1
    have R:=x8z u HX.out hown'
    have B1:Below w.heap.size w w1:=Bb.trans hb1
    clear hown' hb1 ob Bb
    go_wp2
    go_roundw
    case rel=>exact ⟨k+3,_,by omega,by go_num,by simp;omega,R,HN.out,B1⟩
    case measure=>simp[intOf];omega
   |false=>
    rw[hf,if_neg (by decide)]at HF
    rw[HF.out]at HN
    have ckk:=fun (W:World) (_:Below w.heap.size w W)=>zgpz (n:Int) W
    simp only[zh6z,hf]at ckk
    have CK:Hid (∀W,Below w.heap.size w W→CS 91 #[.int .i64 (n:Int)] W (.bool false)):=ckk
    clear ckk hf HF
    generalize UInt8.ofNat n=u at HN HT
    go_wp2_with fail
    refine (HC.out _).mono ?_
    rintro e wb ⟨rfl,bb⟩
    have ob:=zjz hown bb
    have hsb:=bb.size
    have Bb:Below w.heap.size w wb:=hbel.trans (bb.mono hsz)
    clear bb hbel hown
    go_wp2_with fail
    refine (CK.out _ Bb).mono ?_
    rintro e w' ⟨rfl,rfl⟩
    go_wp2_with fail
    refine (znsz u n HT.out _ o w.heap.size _ ob (by omega) (by omega)).mono ?_
    rintro e w1 ⟨v',rfl,hown',hb1⟩
    have B1:Below w.heap.size w w1:=Bb.trans hb1
    clear hb1 ob Bb
    go_wp2
    go_roundw
    case rel=>exact ⟨k+3,_,by omega,by go_num,by simp[putB];omega,hown',HN.out,B1⟩
    case measure=>simp[intOf];omega
  have HN:Hid ((o++xlz set s[k])++plL set (s.data.toList.drop (k+1))=plL set s.data.toList):=znuz set s k hlt o (by omega) HE.out
  obtain ⟨d,hd⟩: ∃d:Nat,s[k].toNat=d:=⟨_,rfl⟩
  have hd1:(d:Int)≤255:=by have:=s[k].toNat_lt;omega
  have hd0:0≤(d:Int):=by omega
  have HD:Hid (s[k].toNat=d):=hd
  have hkl:=zfDz set s[k]
  generalize yaz s k=c at hct hcl hc
  obtain ⟨hc0,hc1⟩:=hcl
  have HC:Hid (∀W,CB 89 #[.string s,.int .i64 (k:Int)] W (.int .i64 c)):=hct
  clear hct
  have ckk:=fun W=>zoFz set (d:Int) W
  simp only[zeiz]at ckk
  cases hkp:yHz set d with
  |true=>
   rw[zkKz (show yHz set s[k].toNat=true by rw[hd];exact hkp)]at HN hkl
   rw[hkp]at ckk
   have CK:Hid (∀W,CS 90 #[.int .i64 set,.int .i64 (d:Int)] W (.bool true)):=ckk
   have HX:Hid ((d:Int)=(s[k].toNat:Int)):=by show _=_;rw[hd]
   clear ckk hkp
   go_wp2_with fail
   refine (HC.out _).mono ?_
   rintro e wb ⟨rfl,bb⟩
   have ob:=zjz hown bb
   have hsb:=bb.size
   have Bb:Below w.heap.size w wb:=hbel.trans (bb.mono hsz)
   clear bb hbel hown
   go_wp2_with fail
   refine (CK.out _).mono ?_
   rintro e w' ⟨rfl,rfl⟩
   go_wp2_with (at_builtin;refine zbz _ rfl _ _ 22 rfl w.heap.size 5 (.int .u8 0) 1 Tryz.underlying22 Tryz.info5 rfl _ _ _ rfl ob #[.int .u8 (d:Int)] 1 rfl rfl (x9z _) (by omega) (by unfold maxLen;omega) (by omega) ?_)
   intro v' w1 hown' hb1
   have R:=x8z s[k] HX.out hown'
   have B1:Below w.heap.size w w1:=Bb.trans hb1
   clear hown' hb1 ob Bb
   go_wp2
   go_roundw
   case rel=>exact ⟨k+1,_,by omega,by go_num,by simp;omega,R,HN.out,B1⟩
   case measure=>simp[intOf];omega
  |false=>
   rw[zntz (show yHz set s[k].toNat=false by rw[hd];exact hkp)]at HN hkl
   rw[hkp]at ckk
   have CK:Hid (∀W,CS 90 #[.int .i64 set,.int .i64 (d:Int)] W (.bool false)):=ckk
   clear ckk hkp
   go_wp2_with fail
   refine (HC.out _).mono ?_
   rintro e wb ⟨rfl,bb⟩
   have ob:=zjz hown bb
   have hsb:=bb.size
   have Bb:Below w.heap.size w wb:=hbel.trans (bb.mono hsz)
   clear bb hbel hown
   go_wp2_with fail
   refine (CK.out _).mono ?_
   rintro e w' ⟨rfl,rfl⟩
   go_wp2_with fail
   refine (znsz s[k] d HD.out _ o w.heap.size _ ob (by omega) (by omega)).mono ?_
   rintro e w1 ⟨v',rfl,hown',hb1⟩
   have B1:Below w.heap.size w w1:=Bb.trans hb1
   clear hb1 ob Bb
   go_wp2
   go_roundw
   case rel=>exact ⟨k+1,_,by omega,by go_num,by simp[putB];omega,hown',HN.out,B1⟩
   case measure=>simp[intOf];omega
 have HO:=zzz (P:=Tryz.prog) wr 22 9 5 Tryz.underlying22 Tryz.underlying5 Tryz.underlying9 hown
 go_wp2
 go_ret
 exact ⟨j2z (zqFz set s k (by omega) o HE.out),hbel⟩
def dotA(n:Int):Int:=if 1≤n∧n≤2 then n else 0
theorem zqGz{s:ByteArray}{k n:Nat}(hk:s.size≤k)(he:unL s.data.toList=List.replicate n 46++unL (s.data.toList.drop k)):(isd s.data.toList:Int)=dotA (n:Int):=by
 rw[zsqz hk he]
 unfold dotA
 by_cases h:1≤n∧n≤2
 ·rw[if_pos h,if_pos (by omega)]
 rw[if_neg h,if_neg (by omega)];rfl
theorem zdOz{l:List UInt8}(h:isd l=0):(isd l:Int)=dotA (-1):=by rw[h];rfl
theorem zl4z(s:ByteArray)(w:World)(hs:s.size≤16777216):
  Calls Tryz.prog 141 #[.string s] w fun e w'=> ∃n:Int,e=.returned (.int .i64 n)∧ -1≤n∧n≤16777216∧(isd s.data.toList:Int)=dotA n∧w=w':=by
 go_enter Tryz.func141,Tryz.ntmps141
 go_wp2
 go_loop[3,4] (fun n i=> ∃k m:Nat,k≤s.size∧i=.int .i64 k∧n=.int .i64 m∧m≤k∧unL s.data.toList=List.replicate m 46++unL (s.data.toList.drop k))
  (fun _ i=>s.size-(intOf i).toNat)
 case atStart=>exact ⟨0,0,Nat.zero_le _,rfl,rfl,Nat.le_refl _,rfl⟩
 obtain ⟨k,m,hk,rfl,rfl,hm,he⟩:=hrel
 have HE:Hid (unL s.data.toList=List.replicate m 46++unL (s.data.toList.drop k)):=he
 clear he
 by_cases hlt:k<s.size
 ·by_cases h46:s[k].toNat=46
  ·have HN:Hid (unL s.data.toList=List.replicate (m+1) 46++unL (s.data.toList.drop (k+1))):=zspz hlt h46 HE.out
   go_wp2
   go_round
   case rel=>exact ⟨k+1,m+1,by omega,by go_num,by go_num,by omega,HN.out⟩
   case measure=>simp[intOf];omega
  by_cases h2:k+2<s.size
  ·obtain ⟨d1,e1⟩: ∃d:Nat,s[k+1].toNat=d:=⟨_,rfl⟩
   obtain ⟨d2,e2⟩: ∃d:Nat,s[k+2].toNat=d:=⟨_,rfl⟩
   have i1:=zezz Tryz.prog 9 Tryz.underlying9 s ((k:Int)+1) (k+1) d1 (by omega) (by omega) e1
   have i2:=zezz Tryz.prog 9 Tryz.underlying9 s ((k:Int)+2) (k+2) d2 (by omega) (by omega) e2
   by_cases h37:s[k].toNat=37
   ·by_cases h50:d1=50
    ·by_cases he1:d2=101
     ·have HN:Hid (unL s.data.toList=List.replicate (m+1) 46++unL (s.data.toList.drop (k+3))):=znmz h2 h37 (by omega) (by omega) HE.out
      go_wp2
      go_round
      case rel=>exact ⟨k+3,m+1,by omega,by go_num,by go_num,by omega,HN.out⟩
      case measure=>simp[intOf];omega
     by_cases he2:d2=69
     ·have HN:Hid (unL s.data.toList=List.replicate (m+1) 46++unL (s.data.toList.drop (k+3))):=znmz h2 h37 (by omega) (by omega) HE.out
      go_wp2
      go_round
      case rel=>exact ⟨k+3,m+1,by omega,by go_num,by go_num,by omega,HN.out⟩
      case measure=>simp[intOf];omega
     have q1:((d2:Int)==101)=false:=by rw[beq_eq_false_iff_ne];omega
     have q2:((d2:Int)==69)=false:=by rw[beq_eq_false_iff_ne];omega
     have HO:Hid ((isd s.data.toList:Int)=dotA (-1)):=zdOz (zfvz hlt (by omega) (fun _=>by omega) HE.out)
     go_wp2
     go_ret
     exact ⟨-1,rfl,by omega,by omega,HO.out,rfl⟩
    skip
    have HO:Hid ((isd s.data.toList:Int)=dotA (-1)):=zdOz (zfvz hlt (by omega) (fun _=>by omega) HE.out)
    go_wp2
    go_ret
    exact ⟨-1,rfl,by omega,by omega,HO.out,rfl⟩
   skip
   have HO:Hid ((isd s.data.toList:Int)=dotA (-1)):=zdOz (zfvz hlt (by omega) (fun _=>by omega) HE.out)
   go_wp2
   go_ret
   exact ⟨-1,rfl,by omega,by omega,HO.out,rfl⟩
  skip
  have HO:Hid ((isd s.data.toList:Int)=dotA (-1)):=zdOz (zfvz hlt (by omega) (fun _=>by omega) HE.out)
  go_wp2
  go_ret
  exact ⟨-1,rfl,by omega,by omega,HO.out,rfl⟩
 have HO:Hid ((isd s.data.toList:Int)=dotA (m:Int)):=zqGz (by omega) HE.out
 go_wp2
 go_ret
 exact ⟨m,rfl,by omega,by omega,HO.out,rfl⟩
theorem zl5z(s:ByteArray)(w:World)(hs:s.size≤16777216):
  Calls Tryz.prog 94 #[.string s] w fun e w'=>e=.returned (.int .i64 (isd s.data.toList:Int))∧w=w':=by
 go_enter Tryz.func94,Tryz.ntmps94
 go_wp2_with fail
 refine (zl4z s _ hs).mono ?_
 rintro e w' ⟨n,rfl,hn0,hn1,hi,rfl⟩
 have HI:Hid ((isd s.data.toList:Int)=dotA n):=hi
 clear hi
 by_cases h:1≤n∧n≤2
 ·have HA:Hid (dotA n=n):=by show _=_;unfold dotA;rw[if_pos h]
  go_wp2_with fail
  refine (zfz _ _ _ _ h.1 h.2).mono ?_
  rintro e w' ⟨rfl,rfl⟩
  go_wp2
  go_ret
  exact ⟨znz (by rw[HI.out,HA.out]),rfl⟩
 have HA:Hid (dotA n=0):=by show _=_;unfold dotA;rw[if_neg h]
 go_wp2_with fail
 refine (zlz _ _ _ _ (by omega)).mono ?_
 rintro e w' ⟨rfl,rfl⟩
 go_wp2
 go_ret
 exact ⟨znz (by rw[HI.out,HA.out]),rfl⟩
theorem zUz{a b:ByteArray}(h:a=b):Ending.returned (.string a)=.returned (.string b):=by rw[h]
def vFz(tb te:TypeId)(n0 B g:Nat)(out:List ByteArray)(W:World):Prop:=
 ∃v,Boxed W B tb v∧W.ownsRow n0 te 1 v out.length (zrz out)∧some g≠v.ownBlock∧g<W.heap.size
theorem zgrz{w w':World}(hb:Below w.heap.size w w'):w.grownBy w' none:=⟨hb.os,hb.tape,hb.output,hb.size,fun k hk _=>hb.block k hk⟩
theorem zh7z{W W':World}{B:Nat}{t:TypeId}{v:Value}(h:Boxed W B t v)(hb:Below W.heap.size W W'):Boxed W' B t v:=h.kept (zgrz hb) (by simp)
theorem zbUz{tb te:TypeId}{n0 B g:Nat}{out:List ByteArray}{W W':World}(h:vFz tb te n0 B g out W)(hb:Below W.heap.size W W'):vFz tb te n0 B g out W':=by
 obtain ⟨v,h1,h2,h3,h4⟩:=h
 refine ⟨v,zh7z h1 hb,h2.kept (zgrz hb) (by cases hv:v.ownBlock<;>simp),h3,Nat.lt_of_lt_of_le h4 hb.size⟩
theorem zoGz{tb te:TypeId}(hte:tb≠te){n0 B g:Nat}{out:List ByteArray}{x:ByteArray}{W w1:World}{v v':Value}(hgB:g≠B)(hB:n0≤B)(hn:n0≤W.heap.size)
  (h1:Boxed W B tb v) (h2:W.ownsRow n0 te 1 v out.length (zrz out)) (h3:some g≠v.ownBlock) (h4:g<W.heap.size)
  (o:w1.ownsRow n0 te 1 v' (out.length+1) (zrz out++[.string x])) (hgr:W.grownBy w1 v.ownBlock) (hat:v'.ownBlock=v.ownBlock∨v'.ownBlock=some (W.heap.size+1)):
  Boxed w1 B tb v∧vFz tb te n0 B g (out++[x]) (w1.setCell ⟨B,0,none⟩ v')∧(w1.setCell ⟨B,0,none⟩ v').heap[g]? =W.heap[g]? ∧Below n0 W (w1.setCell ⟨B,0,none⟩ v'):=by
 have hb1:Boxed w1 B tb v:=h1.kept hgr (h1.not_row hte h2)
 have hgs:=grownBy_setCell' w1 B v'
 refine ⟨hb1,⟨v',hb1.set v',?_,?_,?_⟩,?_,?_⟩
 ·rw[vXz,List.length_append]
  exact o.kept hgs (.inr (hb1.not_row hte o).symm)
 ·rcases hat with h|h
  ·rw[h];exact h3
  rw[h];intro e;cases e;omega
 ·exact Nat.lt_of_lt_of_le (Nat.lt_of_lt_of_le h4 hgr.size) hgs.size
 ·rw[hgs.block g (Nat.lt_of_lt_of_le h4 hgr.size) (fun e=>hgB (by cases e;rfl)),hgr.block g h4 h3]
 refine ((Below.refl n0 W).grown hgr hn fun j ej=> ?_).setCell (p:=⟨B,0,none⟩) hB v'
 exact (h2.lt j ej).1
theorem zoHz{tb te:TypeId}(hte:tb≠te){n0 B g b cap:Nat}{out:List ByteArray}{W:World}(m:Nat)(hm:m≤out.length)(hgB:g≠B)(hB:n0≤B)
  (h1:Boxed W B tb (.slice (some ⟨b,0,none⟩) out.length cap)) (h2:W.ownsRow n0 te 1 (.slice (some ⟨b,0,none⟩) out.length cap) out.length (zrz out)) (h3:some g≠(Value.slice (some ⟨b,0,none⟩) out.length cap).ownBlock) (h4:g<W.heap.size):
  vFz tb te n0 B g (out.take m) (W.setCell ⟨B,0,none⟩ (.slice (some ⟨b,0,none⟩) m cap))∧(W.setCell ⟨B,0,none⟩ (.slice (some ⟨b,0,none⟩) m cap)).heap[g]? =W.heap[g]? ∧Below n0 W (W.setCell ⟨B,0,none⟩ (.slice (some ⟨b,0,none⟩) m cap)):=by
 have hgs:=grownBy_setCell' W B (.slice (some ⟨b,0,none⟩) m cap)
 have o:=zbAz h2 m hm
 rw[v1z]at o
 refine ⟨⟨_,h1.set _,?_,h3,Nat.lt_of_lt_of_le h4 hgs.size⟩,hgs.block g h4 (fun e=>hgB (by cases e;rfl)),(Below.refl n0 W).setCell (p:=⟨B,0,none⟩) hB _⟩
 rw[List.length_take,Nat.min_eq_left hm]
 exact o.kept hgs (.inr (h1.not_row hte o).symm)
theorem zeAz{W W':World}{g:Nat}(h:W'.heap[g]? =W.heap[g]?)(j:Nat):W'.cell? ⟨g,j,none⟩=W.cell? ⟨g,j,none⟩:=by
 simp only[World.cell?,h]
end Go.Proofs.YtgcbaphbiaimoaaGreatDoor
