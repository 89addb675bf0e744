/- PutPct, PercentWalk, PlainlyWalk, DotSpec, KeepBox, DropDotsSpec. -/
import Derived.Test.YtgcbaphbiaimoaaGreatDoorQU16
import Derived.Deep.RegionLaw
import Derived.RangeFuncBox
set_option maxHeartbeats 4000000
set_option maxRecDepth 100000
namespace Go.Proofs.YtgcbaphbiaimoaaGreatDoor
open Go.RowKit
theorem zaCz{P:Program}{w:World}{ops:Array Oper}{o:Oper}{a:Act}{K:Act→World→Prop}{Q:Exit→Act→World→Prop}{E:Prop}(hg:o.guard=none)(s x:Operand)(t:TypeId)
  (hop:o.op=.call {callee:=.builtin .append,args:= #[s,x],argTypes:= #[t,t]})
  (B:Nat) (e:TypeId) (z:Value) (bytes:Nat) (ht:P.underlying t=some (.slice e)) (hinfo:(P.info? e).map (fun i=>(i.zero,i.size,i.bytes))=some (some z,1,bytes)) (hz:z.cells.size=1)
  (v:Value) (n:Nat) (xs:List Value) (hs:a.eval s=v) (hown:w.ownsRow B e 1 v n xs)
  (ad:Addr) (m c:Nat) (news:List Value) (hx:a.eval x=.slice (some ad) m c) (hl:news.length=m*1) (hnews: ∀j u,news[j]? =some u→w.cell? (ad.add j)=some u) (h1: ∀u∈news,u.oneCell'=true)
  (h63:n+m≤maxLen) (hbytes:(n+m)*bytes≤140737488355328) (hbase:B≤w.heap.size)
  (hK: ∀v' w',w'.ownsRow B e 1 v' (n+m) (xs++news)→w.grownBy w' v.ownBlock→K (a.put o.dst v') w'):
  if Region.wanted o (yielded ops a.tmps)=true then Oper.wp P o a w K Q else E:=by
 obtain ⟨i0,hi,hz0,hz1,hz2⟩:=info_parts hinfo
 have hw:Region.wanted o (yielded ops a.tmps)=true:=by simp[Region.wanted,hg]
 rw[if_pos hw]
 exact wp_append_own w s x t hop B e i0 z 1 bytes ht hi hz0 hz1 hz2 hz (by decide) v n xs hs hown ad m c news hx hl hnews h1 h63 hbytes hbase fun v' w' a b _=>hK v' w' a b
def zpPz:ByteArray:=⟨#[48,49,50,51,52,53,54,55,56,57,65,66,67,68,69,70]⟩
theorem zsMz: ∀n,(h:n<16)→(zpPz[n]'h).toNat=(digU n).toNat:=by decide+kernel
theorem zeTz(P:Program)(t:TypeId)(h:P.underlying t=some .string)(k:IntKind)(n:Nat)(hn:n<16)(i:Int)(hi:i=(n:Int))(W:World):
  (Instr.index t (.string ⟨#[48,49,50,51,52,53,54,55,56,57,65,66,67,68,69,70]⟩) (.int k i)).run P W=.ok (.int .u8 ((digU n).toNat:Int)) W:=by
 subst hi
 have hs:(⟨#[48,49,50,51,52,53,54,55,56,57,65,66,67,68,69,70]⟩:ByteArray).size=16:=rfl
 rw[run_index_string W t _ k _ h,dif_pos (by omega)]
 simp only[Int.toNat_natCast]
 exact congrArg (fun d:Nat=>Result.ok (Value.int .u8 (d:Int)) W) (zsMz n hn)
theorem zhqz: ∀n:Nat,n<256→bits .and .u8 (n:Int) 15=(n:Int)%16:=by decide+kernel
theorem zmEz{w1:World}{B:Nat}{e:TypeId}{v:Value}{o:List UInt8}(c:UInt8){x y:Int}(hx:x=((digU (c.toNat/16)).toNat:Int))(hy:y=((digU (c.toNat%16)).toNat:Int))
  (h:w1.ownsRow B e 1 v (o.length+3) (zcz o++[Value.int .u8 37,.int .u8 x,.int .u8 y])):w1.ownsRow B e 1 v (o++putB c).length (zcz (o++putB c)):=by
 subst hx hy
 rw[xdz,List.length_append]
 exact h
theorem zcaz(c:UInt8)(d:Nat)(hd:c.toNat=d)(v:Value)(o:List UInt8)(B:Nat)(w:World)(hown:w.ownsRow B 5 1 v o.length (zcz o))(hB:B≤w.heap.size)(hl:o.length≤1099511627776):
  Calls Tryz.prog 159 #[v,.int .u8 (d:Int)] w fun e w'=> ∃v',e=.returned v'∧w'.ownsRow B 5 1 v' (o++putB c).length (zcz (o++putB c))∧Below B w w':=by
 have hd1:(d:Int)≤255:=by have:=c.toNat_lt;omega
 have hd0:0≤(d:Int):=by omega
 have hb:=zhqz d (by omega)
 have i1:=zeTz Tryz.prog 9 Tryz.underlying9 .u8 (d/16) (by omega) ((d:Int)/16) (by omega)
 have i2:=zeTz Tryz.prog 9 Tryz.underlying9 .u8 (d%16) (by omega) ((d:Int)%16) (by omega)
 obtain ⟨p,hp⟩: ∃p:Int,((digU (d/16)).toNat:Int)=p:=⟨_,rfl⟩
 obtain ⟨q,hq⟩: ∃q:Int,((digU (d%16)).toNat:Int)=q:=⟨_,rfl⟩
 rw[hp]at i1
 rw[hq]at i2
 have HP:Hid (p=((digU (c.toNat/16)).toNat:Int)):=by show _=_;rw[hd,hp]
 have HQ:Hid (q=((digU (c.toNat%16)).toNat:Int)):=by show _=_;rw[hd,hq]
 clear hp hq
 have HA:Hid ((w.alloc (.cells #[.int .u8 37,.int .u8 p,.int .u8 q] 5)).drew.ownsRow B 5 1 v o.length (zcz o)):=hown.alloc _
 have HN:Hid (∀j u,[Value.int .u8 37,.int .u8 p,.int .u8 q][j]? =some u→(w.alloc (.cells #[.int .u8 37,.int .u8 p,.int .u8 q] 5)).drew.cell? ((⟨w.heap.size,0,none⟩:Addr).add j)=some u):=by
  intro j u hj
  show (w.alloc (.cells #[.int .u8 37,.int .u8 p,.int .u8 q] 5)).cell? _=_
  rw[Addr.add_lit,Nat.zero_add,World.cell?_alloc_at _ _ _ _ rfl]
  simpa using hj
 have H1:Hid (∀u∈[Value.int .u8 37,.int .u8 p,.int .u8 q],u.oneCell'=true):=by
  intro u hu
  simp at hu
  rcases hu with rfl|rfl|rfl<;>rfl
 have HB:Hid (∀w1:World,(w.alloc (.cells #[.int .u8 37,.int .u8 p,.int .u8 q] 5)).drew.grownBy w1 v.ownBlock→Below B w w1):=fun w1 hg=>
  (((Below.refl B w).alloc hB _).drew).grown hg (by simp;omega) (fun k hk=>(hown.lt k hk).1)
 have HL:Hid (B≤(w.alloc (.cells #[.int .u8 37,.int .u8 p,.int .u8 q] 5)).drew.heap.size):=by show B≤_;simp;omega
 go_enter Tryz.func159,Tryz.ntmps159
 go_wp2_with fail
 go_region_law ((refine zaCz rfl (.tmp 5) (.tmp 12) 22 rfl B 5 (.int .u8 0) 1 Tryz.underlying22 Tryz.info5 rfl v o.length (zcz o) rfl HA.out ⟨w.heap.size,0,none⟩ 3 3 [.int .u8 37,.int .u8 p,.int .u8 q] rfl rfl HN.out H1.out (by unfold maxLen;omega) (by omega) HL.out ?_;intro v' w1 hown' hgrow))
 all_goals
  go_wp2
  go_ret
  exact ⟨_,rfl,zmEz c HP.out HQ.out hown',HB.out _ hgrow⟩
theorem zmFz(c:UInt8)(d:Nat)(hd:c.toNat=d)(v:Value)(o:List UInt8)(B:Nat)(w:World)(hown:w.ownsRow B 5 1 v o.length (zcz o))(hB:B≤w.heap.size)(hl:o.length≤1099511627776):
  Calls Tryz.prog 92 #[v,.int .u8 (d:Int)] w fun e w'=> ∃v',e=.returned v'∧w'.ownsRow B 5 1 v' (o++putB c).length (zcz (o++putB c))∧Below B w w':=by
 have hd1:(d:Int)≤255:=by have:=c.toNat_lt;omega
 have hd0:0≤(d:Int):=by omega
 have hb:=zhqz d (by omega)
 have i1:=zeTz Tryz.prog 9 Tryz.underlying9 .u8 (d/16) (by omega) ((d:Int)/16) (by omega)
 have i2:=zeTz Tryz.prog 9 Tryz.underlying9 .u8 (d%16) (by omega) ((d:Int)%16) (by omega)
 obtain ⟨p,hp⟩: ∃p:Int,((digU (d/16)).toNat:Int)=p:=⟨_,rfl⟩
 obtain ⟨q,hq⟩: ∃q:Int,((digU (d%16)).toNat:Int)=q:=⟨_,rfl⟩
 rw[hp]at i1
 rw[hq]at i2
 have HP:Hid (p=((digU (c.toNat/16)).toNat:Int)):=by show _=_;rw[hd,hp]
 have HQ:Hid (q=((digU (c.toNat%16)).toNat:Int)):=by show _=_;rw[hd,hq]
 clear hp hq
 have HA:Hid ((w.alloc (.cells #[.int .u8 37,.int .u8 p,.int .u8 q] 5)).drew.ownsRow B 5 1 v o.length (zcz o)):=hown.alloc _
 have HN:Hid (∀j u,[Value.int .u8 37,.int .u8 p,.int .u8 q][j]? =some u→(w.alloc (.cells #[.int .u8 37,.int .u8 p,.int .u8 q] 5)).drew.cell? ((⟨w.heap.size,0,none⟩:Addr).add j)=some u):=by
  intro j u hj
  show (w.alloc (.cells #[.int .u8 37,.int .u8 p,.int .u8 q] 5)).cell? _=_
  rw[Addr.add_lit,Nat.zero_add,World.cell?_alloc_at _ _ _ _ rfl]
  simpa using hj
 have H1:Hid (∀u∈[Value.int .u8 37,.int .u8 p,.int .u8 q],u.oneCell'=true):=by
  intro u hu
  simp at hu
  rcases hu with rfl|rfl|rfl<;>rfl
 have HB:Hid (∀w1:World,(w.alloc (.cells #[.int .u8 37,.int .u8 p,.int .u8 q] 5)).drew.grownBy w1 v.ownBlock→Below B w w1):=fun w1 hg=>
  (((Below.refl B w).alloc hB _).drew).grown hg (by simp;omega) (fun k hk=>(hown.lt k hk).1)
 have HL:Hid (B≤(w.alloc (.cells #[.int .u8 37,.int .u8 p,.int .u8 q] 5)).drew.heap.size):=by show B≤_;simp;omega
 go_enter Tryz.func92,Tryz.ntmps92
 go_wp2_with fail
 go_region_law ((refine zaCz rfl (.tmp 5) (.tmp 12) 22 rfl B 5 (.int .u8 0) 1 Tryz.underlying22 Tryz.info5 rfl v o.length (zcz o) rfl HA.out ⟨w.heap.size,0,none⟩ 3 3 [.int .u8 37,.int .u8 p,.int .u8 q] rfl rfl HN.out H1.out (by unfold maxLen;omega) (by omega) HL.out ?_;intro v' w1 hown' hgrow))
 all_goals
  go_wp2
  go_ret
  exact ⟨_,rfl,zmEz c HP.out HQ.out hown',HB.out _ hgrow⟩
theorem zj3z{set:Int}{c:UInt8}(h:ytz set c.toNat=true):xiz set c=[c]:=by unfold xiz;rw[h];rfl
theorem zmGz{set:Int}{c:UInt8}(h:ytz set c.toNat=false):xiz set c=putB c:=by unfold xiz;rw[h];rfl
theorem zfNz(c:UInt8)(d:Nat)(hd:c.toNat=d)(set:Int)(v:Value)(o:List UInt8)(B:Nat)(w:World)(hM:xFz w)(hown:w.ownsRow B 5 1 v o.length (zcz o))(hB:B≤w.heap.size)(hl:o.length≤1099511627776):
  Calls Tryz.prog 157 #[v,.int .u8 (d:Int),.int .i64 set] w fun e w'=> ∃v',e=.returned v'∧w'.ownsRow B 5 1 v' (o++xiz set c).length (zcz (o++xiz set c))∧Below B w w':=by
 have hd1:(d:Int)≤255:=by have:=c.toNat_lt;omega
 have hd0:0≤(d:Int):=by omega
 have ck:=znfz set (d:Int) w hM
 rw[zbLz]at ck
 cases hk:ytz set d with
 |true=>
  have HK:Hid (xiz set c=[c]):=zj3z (by rw[hd];exact hk)
  have HD:Hid ((d:Int)=(c.toNat:Int)):=by show _=_;rw[hd]
  rw[hk]at ck
  have CK:Hid (CS 216 #[.int .i64 set,.int .i64 (d:Int)] w (.bool true)):=ck
  clear ck hk hd hM
  go_enter Tryz.func157,Tryz.ntmps157
  go_wp2_with fail
  refine CK.out.mono ?_
  rintro e w' ⟨rfl,rfl⟩
  go_wp2_with (at_builtin;refine zbz _ rfl _ _ 22 rfl B 5 (.int .u8 0) 1 Tryz.underlying22 Tryz.info5 rfl _ _ _ rfl hown #[.int .u8 (d:Int)] 1 rfl rfl (vnz _) (by omega) (by unfold maxLen;omega) (by omega) ?_)
  intro v' w1 hown' hb1
  have R:=vmz c HD.out hown'
  clear hown'
  go_wp2
  go_ret
  exact ⟨_,rfl,by rw[HK.out];exact R,hb1⟩
 |false=>
  have HK:Hid (xiz set c=putB c):=zmGz (by rw[hd];exact hk)
  have HD:Hid (c.toNat=d):=hd
  rw[hk]at ck
  have CK:Hid (CS 216 #[.int .i64 set,.int .i64 (d:Int)] w (.bool false)):=ck
  clear ck hk hd hM
  go_enter Tryz.func157,Tryz.ntmps157
  go_wp2_with fail
  refine CK.out.mono ?_
  rintro e w' ⟨rfl,rfl⟩
  go_wp2_with fail
  refine (zcaz c d HD.out _ o B _ hown hB hl).mono ?_
  rintro e w1 ⟨v',rfl,hown',hb1⟩
  go_wp2
  go_ret
  exact ⟨_,rfl,by rw[HK.out];exact hown',hb1⟩
theorem zpQz(set:Int)(s:ByteArray)(k n:Nat)(h:zXz s k=(n:Int))(o:List UInt8)(he:o++plL set (s.data.toList.drop k)=plL set s.data.toList):
  (o++xXz (UInt8.ofNat n))++plL set (s.data.toList.drop (k+3))=plL set s.data.toList:=by
 rw[←he]
 unfold plL
 rw[zcKz _ _ s k (by omega),h,List.append_assoc]
 rfl
theorem zmHz(set:Int)(s:ByteArray)(k:Nat)(hk:k<s.size)(o:List UInt8)(h:zXz s k<0)(he:o++plL set (s.data.toList.drop k)=plL set s.data.toList):
  (o++xiz set s[k])++plL set (s.data.toList.drop (k+1))=plL set s.data.toList:=by
 rw[←he]
 unfold plL
 rw[zbdz _ _ s k hk h,List.append_assoc]
theorem zpRz(set:Int)(s:ByteArray)(k:Nat)(hk:s.size≤k)(o:List UInt8)(he:o++plL set (s.data.toList.drop k)=plL set s.data.toList):o=plL set s.data.toList:=by
 rw[←he]
 unfold plL
 rw[zhQz _ _ s k hk]
 simp
theorem zhrz(n:Nat):zb8z (n:Int)=yPz n:=by simp[zb8z]
theorem zbxz(s:ByteArray)(set:Int)(w:World)(hM:xFz w)(hs:s.size≤4294967296):
  Calls Tryz.prog 104 #[.string s,.int .i64 set] w fun e w'=>e=.returned (.string ⟨(plL set s.data.toList).toArray⟩)∧Below w.heap.size w w':=by
 have HM:Hid (xFz w):=hM
 clear hM
 obtain ⟨i0,hi,hz0,hz1,hz2⟩:=info_parts Tryz.info5
 go_enter Tryz.func104,Tryz.ntmps104
 go_wp2_with (at_make;refine wpList_make_own _ rfl _ _ 22 rfl w.heap.size 5 i0 (.int .u8 0) 1 Tryz.underlying22 hi hz0 hz1 _ _ _ s.size rfl rfl (by omega) (by rw[hz2];omega) (by unfold maxLen;omega) (Nat.le_refl _) ?_)
 intro wm hmo hgm
 have Bm:Below w.heap.size w wm:=(Below.refl _ _).grown hgm (Nat.le_refl _) (fun k hk=>by cases hk)
 clear hgm
 go_wp2
 go_loopw[5,6] (fun v i wr=> ∃(k:Nat) (o:List UInt8),k≤s.size∧i=.int .i64 k∧o.length≤3*k∧wr.ownsRow w.heap.size 5 1 v o.length (zcz o)∧o++plL set (s.data.toList.drop k)=plL set s.data.toList∧Below w.heap.size w wr)
  (fun _ i _=>s.size-(intOf i).toNat)
 case atStart=>exact ⟨0,[],Nat.zero_le _,rfl,Nat.zero_le _,hmo,rfl,Bm⟩
 clear hmo Bm hi hz0 hz1 hz2
 obtain ⟨k,o,hk,rfl,hol,hown,he,hbel⟩:=hrel
 have HE:Hid (o++plL set (s.data.toList.drop k)=plL set s.data.toList):=he
 clear he
 have hsz:=hbel.size
 by_cases hlt:k<s.size
 ·have hct:=fun W=>zhoz s k W hlt (by omega)
  have hcl:=zaoz s k
  by_cases hc:0≤zXz s k
  ·obtain ⟨n,hn⟩:=Int.eq_ofNat_of_zero_le hc
   have hk3:=jDz hc
   have HN:Hid ((o++xXz (UInt8.ofNat n))++plL set (s.data.toList.drop (k+3))=plL set s.data.toList):=zpQz set s k n hn o HE.out
   have HT:Hid ((UInt8.ofNat n).toNat=n):=by show _=_;simp;omega
   have HF:Hid (xXz (UInt8.ofNat n)=if yPz n then [UInt8.ofNat n]else putB (UInt8.ofNat n)):=by show _=_;unfold xXz;rw[HT.out]
   rw[hn]at hct hcl
   have hn1:(n:Int)≤255:=hcl.2
   have hn0:0≤(n:Int):=by omega
   have HC:Hid (∀W,CB 156 #[.string s,.int .i64 (k:Int)] W (.int .i64 (n:Int))):=hct
   clear hct hcl hc hn
   cases hf:yPz n with
   |true=>
    rw[hf,if_pos rfl]at HF
    rw[HF.out]at HN
    have ckk:=fun (W:World) (hb:Below w.heap.size w W)=>zblz n W (HM.out.later hb) hn1
    rw[hf]at ckk
    have CK:Hid (∀W,Below w.heap.size w W→CS 158 #[.int .u8 (n:Int)] W (.bool true)):=ckk
    have HX:Hid ((n:Int)=((UInt8.ofNat n).toNat:Int)):=by show _=_;rw[HT.out]
    clear ckk hf HF
    generalize UInt8.ofNat n=u at HN HT HX
    go_wp2_with fail
    refine (HC.out _).mono ?_
    rintro e wb ⟨rfl,bb⟩
    have ob:=zkz hown bb
    have hsb:=bb.size
    have Bb:Below w.heap.size w wb:=hbel.trans (bb.mono hsz)
    clear bb hbel hown
    go_wp2_with fail
    refine (CK.out _ Bb).mono ?_
    rintro e w' ⟨rfl,rfl⟩
    go_wp2_with (at_builtin;refine zbz _ rfl _ _ 22 rfl w.heap.size 5 (.int .u8 0) 1 Tryz.underlying22 Tryz.info5 rfl _ _ _ rfl ob #[.int .u8 (n:Int)] 1 rfl rfl (vnz _) (by omega) (by unfold maxLen;omega) (by omega) ?_)
    intro v' w1 hown' hb1
    have R:=vmz u HX.out hown'
    have B1:Below w.heap.size w w1:=Bb.trans hb1
    clear hown' hb1 ob Bb
    go_wp2
    go_roundw
    case rel=>exact ⟨k+3,_,by omega,by go_num,by simp;omega,R,HN.out,B1⟩
    case measure=>simp[intOf];omega
   |false=>
    rw[hf,if_neg (by decide)]at HF
    rw[HF.out]at HN
    have ckk:=fun (W:World) (hb:Below w.heap.size w W)=>zblz n W (HM.out.later hb) hn1
    rw[hf]at ckk
    have CK:Hid (∀W,Below w.heap.size w W→CS 158 #[.int .u8 (n:Int)] W (.bool false)):=ckk
    clear ckk hf HF
    generalize UInt8.ofNat n=u at HN HT
    go_wp2_with fail
    refine (HC.out _).mono ?_
    rintro e wb ⟨rfl,bb⟩
    have ob:=zkz hown bb
    have hsb:=bb.size
    have Bb:Below w.heap.size w wb:=hbel.trans (bb.mono hsz)
    clear bb hbel hown
    go_wp2_with fail
    refine (CK.out _ Bb).mono ?_
    rintro e w' ⟨rfl,rfl⟩
    go_wp2_with fail
    refine (zcaz u n HT.out _ o w.heap.size _ ob (by omega) (by omega)).mono ?_
    rintro e w1 ⟨v',rfl,hown',hb1⟩
    have B1:Below w.heap.size w w1:=Bb.trans hb1
    clear hb1 ob Bb
    go_wp2
    go_roundw
    case rel=>exact ⟨k+3,_,by omega,by go_num,by simp[putB];omega,hown',HN.out,B1⟩
    case measure=>simp[intOf];omega
  have HN:Hid ((o++xiz set s[k])++plL set (s.data.toList.drop (k+1))=plL set s.data.toList):=zmHz set s k hlt o (by omega) HE.out
  obtain ⟨d,hd⟩: ∃d:Nat,s[k].toNat=d:=⟨_,rfl⟩
  have hd1:(d:Int)≤255:=by have:=s[k].toNat_lt;omega
  have hd0:0≤(d:Int):=by omega
  have HD:Hid (s[k].toNat=d):=hd
  have hkl:=ze1z set s[k]
  generalize zXz s k=c at hct hcl hc
  obtain ⟨hc0,hc1⟩:=hcl
  have HC:Hid (∀W,CB 156 #[.string s,.int .i64 (k:Int)] W (.int .i64 c)):=hct
  clear hct
  go_wp2_with fail
  refine (HC.out _).mono ?_
  rintro e wb ⟨rfl,bb⟩
  have ob:=zkz hown bb
  have hsb:=bb.size
  have Bb:Below w.heap.size w wb:=hbel.trans (bb.mono hsz)
  clear bb hbel hown
  go_wp2_with fail
  refine (zfNz s[k] d HD.out set _ o w.heap.size _ (HM.out.later Bb) ob (by omega) (by omega)).mono ?_
  rintro e w1 ⟨v',rfl,hown',hb1⟩
  have B1:Below w.heap.size w w1:=Bb.trans hb1
  clear hb1 ob Bb
  go_wp2
  go_roundw
  case rel=>exact ⟨k+1,_,by omega,by go_num,by rw[List.length_append];omega,hown',HN.out,B1⟩
  case measure=>simp[intOf];omega
 have HO:=zGz (P:=Tryz.prog) wr 22 9 5 Tryz.underlying22 Tryz.underlying5 Tryz.underlying9 hown
 go_wp2
 go_ret
 exact ⟨zbFz (zpRz set s k (by omega) o HE.out),hbel⟩
theorem j5z(s:ByteArray)(set:Int)(w:World)(hs:s.size≤4294967296):
  Calls Tryz.prog 41 #[.string s,.int .i64 set] w fun e w'=>e=.returned (.string ⟨(plL set s.data.toList).toArray⟩)∧Below w.heap.size w w':=by
 go_enter Tryz.func41,Tryz.ntmps41
 go_wp2
 go_loopw[5,6] (fun v i wr=> ∃(k:Nat) (o:List UInt8),k≤s.size∧i=.int .i64 k∧o.length≤3*k∧wr.ownsRow w.heap.size 5 1 v o.length (zcz o)∧o++plL set (s.data.toList.drop k)=plL set s.data.toList∧Below w.heap.size w wr)
  (fun _ i _=>s.size-(intOf i).toNat)
 case atStart=>exact ⟨0,[],Nat.zero_le _,rfl,Nat.zero_le _,World.ownsRow_lit w #[] 0 (Nat.le_refl _) (by decide) rfl,rfl,(Below.refl _ _).alloc (Nat.le_refl _) _⟩
 obtain ⟨k,o,hk,rfl,hol,hown,he,hbel⟩:=hrel
 have HE:Hid (o++plL set (s.data.toList.drop k)=plL set s.data.toList):=he
 clear he
 have hsz:=hbel.size
 by_cases hlt:k<s.size
 ·have hct:=fun W=>zfMz s k W hlt (by omega)
  have hcl:=zaoz s k
  by_cases hc:0≤zXz s k
  ·obtain ⟨n,hn⟩:=Int.eq_ofNat_of_zero_le hc
   have hk3:=jDz hc
   have HN:Hid ((o++xXz (UInt8.ofNat n))++plL set (s.data.toList.drop (k+3))=plL set s.data.toList):=zpQz set s k n hn o HE.out
   have HT:Hid ((UInt8.ofNat n).toNat=n):=by show _=_;simp;omega
   have HF:Hid (xXz (UInt8.ofNat n)=if yPz n then [UInt8.ofNat n]else putB (UInt8.ofNat n)):=by show _=_;unfold xXz;rw[HT.out]
   rw[hn]at hct hcl
   have hn1:(n:Int)≤255:=hcl.2
   have hn0:0≤(n:Int):=by omega
   have HC:Hid (∀W,CB 89 #[.string s,.int .i64 (k:Int)] W (.int .i64 (n:Int))):=hct
   clear hct hcl hc hn
   cases hf:yPz n with
   |true=>
    rw[hf,if_pos rfl]at HF
    rw[HF.out]at HN
    have ckk:=fun (W:World) (_:Below w.heap.size w W)=>zfLz (n:Int) W
    simp only[zhrz,hf]at ckk
    have CK:Hid (∀W,Below w.heap.size w W→CS 91 #[.int .i64 (n:Int)] W (.bool true)):=ckk
    have HX:Hid ((n:Int)=((UInt8.ofNat n).toNat:Int)):=by show _=_;rw[HT.out]
    clear ckk hf HF
    generalize UInt8.ofNat n=u at HN HT HX
    go_wp2_with fail
    refine (HC.out _).mono ?_
    rintro e wb ⟨rfl,bb⟩
    have ob:=zkz hown bb
    have hsb:=bb.size
    have Bb:Below w.heap.size w wb:=hbel.trans (bb.mono hsz)
    clear bb hbel hown
    go_wp2_with fail
    refine (CK.out _ Bb).mono ?_
    rintro e w' ⟨rfl,rfl⟩
    go_wp2_with (at_builtin;refine zbz _ rfl _ _ 22 rfl w.heap.size 5 (.int .u8 0) 1 Tryz.underlying22 Tryz.info5 rfl _ _ _ rfl ob #[.int .u8 (n:Int)] 1 rfl rfl (vnz _) (by omega) (by unfold maxLen;omega) (by omega) ?_)
    intro v' w1 hown' hb1
    have R:=vmz u HX.out hown'
    have B1:Below w.heap.size w w1:=Bb.trans hb1
    clear hown' hb1 ob Bb
    go_wp2
    go_roundw
    case rel=>exact ⟨k+3,_,by omega,by go_num,by simp;omega,R,HN.out,B1⟩
    case measure=>simp[intOf];omega
   |false=>
    rw[hf,if_neg (by decide)]at HF
    rw[HF.out]at HN
    have ckk:=fun (W:World) (_:Below w.heap.size w W)=>zfLz (n:Int) W
    simp only[zhrz,hf]at ckk
    have CK:Hid (∀W,Below w.heap.size w W→CS 91 #[.int .i64 (n:Int)] W (.bool false)):=ckk
    clear ckk hf HF
    generalize UInt8.ofNat n=u at HN HT
    go_wp2_with fail
    refine (HC.out _).mono ?_
    rintro e wb ⟨rfl,bb⟩
    have ob:=zkz hown bb
    have hsb:=bb.size
    have Bb:Below w.heap.size w wb:=hbel.trans (bb.mono hsz)
    clear bb hbel hown
    go_wp2_with fail
    refine (CK.out _ Bb).mono ?_
    rintro e w' ⟨rfl,rfl⟩
    go_wp2_with fail
    refine (zmFz u n HT.out _ o w.heap.size _ ob (by omega) (by omega)).mono ?_
    rintro e w1 ⟨v',rfl,hown',hb1⟩
    have B1:Below w.heap.size w w1:=Bb.trans hb1
    clear hb1 ob Bb
    go_wp2
    go_roundw
    case rel=>exact ⟨k+3,_,by omega,by go_num,by simp[putB];omega,hown',HN.out,B1⟩
    case measure=>simp[intOf];omega
  have HN:Hid ((o++xiz set s[k])++plL set (s.data.toList.drop (k+1))=plL set s.data.toList):=zmHz set s k hlt o (by omega) HE.out
  obtain ⟨d,hd⟩: ∃d:Nat,s[k].toNat=d:=⟨_,rfl⟩
  have hd1:(d:Int)≤255:=by have:=s[k].toNat_lt;omega
  have hd0:0≤(d:Int):=by omega
  have HD:Hid (s[k].toNat=d):=hd
  have hkl:=ze1z set s[k]
  generalize zXz s k=c at hct hcl hc
  obtain ⟨hc0,hc1⟩:=hcl
  have HC:Hid (∀W,CB 89 #[.string s,.int .i64 (k:Int)] W (.int .i64 c)):=hct
  clear hct
  have ckk:=fun W=>zhlz set (d:Int) W
  simp only[zbLz]at ckk
  cases hkp:ytz set d with
  |true=>
   rw[zj3z (show ytz set s[k].toNat=true by rw[hd];exact hkp)]at HN hkl
   rw[hkp]at ckk
   have CK:Hid (∀W,CS 90 #[.int .i64 set,.int .i64 (d:Int)] W (.bool true)):=ckk
   have HX:Hid ((d:Int)=(s[k].toNat:Int)):=by show _=_;rw[hd]
   clear ckk hkp
   go_wp2_with fail
   refine (HC.out _).mono ?_
   rintro e wb ⟨rfl,bb⟩
   have ob:=zkz hown bb
   have hsb:=bb.size
   have Bb:Below w.heap.size w wb:=hbel.trans (bb.mono hsz)
   clear bb hbel hown
   go_wp2_with fail
   refine (CK.out _).mono ?_
   rintro e w' ⟨rfl,rfl⟩
   go_wp2_with (at_builtin;refine zbz _ rfl _ _ 22 rfl w.heap.size 5 (.int .u8 0) 1 Tryz.underlying22 Tryz.info5 rfl _ _ _ rfl ob #[.int .u8 (d:Int)] 1 rfl rfl (vnz _) (by omega) (by unfold maxLen;omega) (by omega) ?_)
   intro v' w1 hown' hb1
   have R:=vmz s[k] HX.out hown'
   have B1:Below w.heap.size w w1:=Bb.trans hb1
   clear hown' hb1 ob Bb
   go_wp2
   go_roundw
   case rel=>exact ⟨k+1,_,by omega,by go_num,by simp;omega,R,HN.out,B1⟩
   case measure=>simp[intOf];omega
  |false=>
   rw[zmGz (show ytz set s[k].toNat=false by rw[hd];exact hkp)]at HN hkl
   rw[hkp]at ckk
   have CK:Hid (∀W,CS 90 #[.int .i64 set,.int .i64 (d:Int)] W (.bool false)):=ckk
   clear ckk hkp
   go_wp2_with fail
   refine (HC.out _).mono ?_
   rintro e wb ⟨rfl,bb⟩
   have ob:=zkz hown bb
   have hsb:=bb.size
   have Bb:Below w.heap.size w wb:=hbel.trans (bb.mono hsz)
   clear bb hbel hown
   go_wp2_with fail
   refine (CK.out _).mono ?_
   rintro e w' ⟨rfl,rfl⟩
   go_wp2_with fail
   refine (zmFz s[k] d HD.out _ o w.heap.size _ ob (by omega) (by omega)).mono ?_
   rintro e w1 ⟨v',rfl,hown',hb1⟩
   have B1:Below w.heap.size w w1:=Bb.trans hb1
   clear hb1 ob Bb
   go_wp2
   go_roundw
   case rel=>exact ⟨k+1,_,by omega,by go_num,by simp[putB];omega,hown',HN.out,B1⟩
   case measure=>simp[intOf];omega
 have HO:=zGz (P:=Tryz.prog) wr 22 9 5 Tryz.underlying22 Tryz.underlying5 Tryz.underlying9 hown
 go_wp2
 go_ret
 exact ⟨zbFz (zpRz set s k (by omega) o HE.out),hbel⟩
def dotA(n:Int):Int:=if 1≤n∧n≤2 then n else 0
theorem zpSz{s:ByteArray}{k n:Nat}(hk:s.size≤k)(he:unL s.data.toList=List.replicate n 46++unL (s.data.toList.drop k)):(isd s.data.toList:Int)=dotA (n:Int):=by
 rw[zrzz hk he]
 unfold dotA
 by_cases h:1≤n∧n≤2
 ·rw[if_pos h,if_pos (by omega)]
 rw[if_neg h,if_neg (by omega)];rfl
theorem zdpz{l:List UInt8}(h:isd l=0):(isd l:Int)=dotA (-1):=by rw[h];rfl
theorem zluz(s:ByteArray)(w:World)(hs:s.size≤16777216):
  Calls Tryz.prog 141 #[.string s] w fun e w'=> ∃n:Int,e=.returned (.int .i64 n)∧ -1≤n∧n≤16777216∧(isd s.data.toList:Int)=dotA n∧w=w':=by
 go_enter Tryz.func141,Tryz.ntmps141
 go_wp2
 go_loop[3,4] (fun n i=> ∃k m:Nat,k≤s.size∧i=.int .i64 k∧n=.int .i64 m∧m≤k∧unL s.data.toList=List.replicate m 46++unL (s.data.toList.drop k))
  (fun _ i=>s.size-(intOf i).toNat)
 case atStart=>exact ⟨0,0,Nat.zero_le _,rfl,rfl,Nat.le_refl _,rfl⟩
 obtain ⟨k,m,hk,rfl,rfl,hm,he⟩:=hrel
 have HE:Hid (unL s.data.toList=List.replicate m 46++unL (s.data.toList.drop k)):=he
 clear he
 by_cases hlt:k<s.size
 ·by_cases h46:s[k].toNat=46
  ·have HN:Hid (unL s.data.toList=List.replicate (m+1) 46++unL (s.data.toList.drop (k+1))):=zryz hlt h46 HE.out
   go_wp2
   go_round
   case rel=>exact ⟨k+1,m+1,by omega,by go_num,by go_num,by omega,HN.out⟩
   case measure=>simp[intOf];omega
  by_cases h2:k+2<s.size
  ·obtain ⟨d1,e1⟩: ∃d:Nat,s[k+1].toNat=d:=⟨_,rfl⟩
   obtain ⟨d2,e2⟩: ∃d:Nat,s[k+2].toNat=d:=⟨_,rfl⟩
   have i1:=zd5z Tryz.prog 9 Tryz.underlying9 s ((k:Int)+1) (k+1) d1 (by omega) (by omega) e1
   have i2:=zd5z Tryz.prog 9 Tryz.underlying9 s ((k:Int)+2) (k+2) d2 (by omega) (by omega) e2
   by_cases h37:s[k].toNat=37
   ·by_cases h50:d1=50
    ·by_cases he1:d2=101
     ·have HN:Hid (unL s.data.toList=List.replicate (m+1) 46++unL (s.data.toList.drop (k+3))):=zmAz h2 h37 (by omega) (by omega) HE.out
      go_wp2
      go_round
      case rel=>exact ⟨k+3,m+1,by omega,by go_num,by go_num,by omega,HN.out⟩
      case measure=>simp[intOf];omega
     by_cases he2:d2=69
     ·have HN:Hid (unL s.data.toList=List.replicate (m+1) 46++unL (s.data.toList.drop (k+3))):=zmAz h2 h37 (by omega) (by omega) HE.out
      go_wp2
      go_round
      case rel=>exact ⟨k+3,m+1,by omega,by go_num,by go_num,by omega,HN.out⟩
      case measure=>simp[intOf];omega
     have q1:((d2:Int)==101)=false:=by rw[beq_eq_false_iff_ne];omega
     have q2:((d2:Int)==69)=false:=by rw[beq_eq_false_iff_ne];omega
     have HO:Hid ((isd s.data.toList:Int)=dotA (-1)):=zdpz (zeSz hlt (by omega) (fun _=>by omega) HE.out)
     go_wp2
     go_ret
     exact ⟨-1,rfl,by omega,by omega,HO.out,rfl⟩
    skip
    have HO:Hid ((isd s.data.toList:Int)=dotA (-1)):=zdpz (zeSz hlt (by omega) (fun _=>by omega) HE.out)
    go_wp2
    go_ret
    exact ⟨-1,rfl,by omega,by omega,HO.out,rfl⟩
   skip
   have HO:Hid ((isd s.data.toList:Int)=dotA (-1)):=zdpz (zeSz hlt (by omega) (fun _=>by omega) HE.out)
   go_wp2
   go_ret
   exact ⟨-1,rfl,by omega,by omega,HO.out,rfl⟩
  skip
  have HO:Hid ((isd s.data.toList:Int)=dotA (-1)):=zdpz (zeSz hlt (by omega) (fun _=>by omega) HE.out)
  go_wp2
  go_ret
  exact ⟨-1,rfl,by omega,by omega,HO.out,rfl⟩
 have HO:Hid ((isd s.data.toList:Int)=dotA (m:Int)):=zpSz (by omega) HE.out
 go_wp2
 go_ret
 exact ⟨m,rfl,by omega,by omega,HO.out,rfl⟩
theorem zlvz(s:ByteArray)(w:World)(hs:s.size≤16777216):
  Calls Tryz.prog 94 #[.string s] w fun e w'=>e=.returned (.int .i64 (isd s.data.toList:Int))∧w=w':=by
 go_enter Tryz.func94,Tryz.ntmps94
 go_wp2_with fail
 refine (zluz s _ hs).mono ?_
 rintro e w' ⟨n,rfl,hn0,hn1,hi,rfl⟩
 have HI:Hid ((isd s.data.toList:Int)=dotA n):=hi
 clear hi
 by_cases h:1≤n∧n≤2
 ·have HA:Hid (dotA n=n):=by show _=_;unfold dotA;rw[if_pos h]
  go_wp2_with fail
  refine (zgz _ _ _ _ h.1 h.2).mono ?_
  rintro e w' ⟨rfl,rfl⟩
  go_wp2
  go_ret
  exact ⟨zqz (by rw[HI.out,HA.out]),rfl⟩
 have HA:Hid (dotA n=0):=by show _=_;unfold dotA;rw[if_neg h]
 go_wp2_with fail
 refine (zmz _ _ _ _ (by omega)).mono ?_
 rintro e w' ⟨rfl,rfl⟩
 go_wp2
 go_ret
 exact ⟨zqz (by rw[HI.out,HA.out]),rfl⟩
theorem ypz{a b:ByteArray}(h:a=b):Ending.returned (.string a)=.returned (.string b):=by rw[h]
def vxz(tb te:TypeId)(n0 B g:Nat)(out:List ByteArray)(W:World):Prop:=
 ∃v,Boxed W B tb v∧W.ownsRow n0 te 1 v out.length (zsz out)∧some g≠v.ownBlock∧g<W.heap.size
theorem zfOz{w w':World}(hb:Below w.heap.size w w'):w.grownBy w' none:=⟨hb.os,hb.tape,hb.output,hb.size,fun k hk _=>hb.block k hk⟩
theorem zhsz{W W':World}{B:Nat}{t:TypeId}{v:Value}(h:Boxed W B t v)(hb:Below W.heap.size W W'):Boxed W' B t v:=h.kept (zfOz hb) (by simp)
theorem zbyz{tb te:TypeId}{n0 B g:Nat}{out:List ByteArray}{W W':World}(h:vxz tb te n0 B g out W)(hb:Below W.heap.size W W'):vxz tb te n0 B g out W':=by
 obtain ⟨v,h1,h2,h3,h4⟩:=h
 refine ⟨v,zhsz h1 hb,h2.kept (zfOz hb) (by cases hv:v.ownBlock<;>simp),h3,Nat.lt_of_lt_of_le h4 hb.size⟩
theorem znRz{tb te:TypeId}(hte:tb≠te){n0 B g:Nat}{out:List ByteArray}{x:ByteArray}{W w1:World}{v v':Value}(hgB:g≠B)(hB:n0≤B)(hn:n0≤W.heap.size)
  (h1:Boxed W B tb v) (h2:W.ownsRow n0 te 1 v out.length (zsz out)) (h3:some g≠v.ownBlock) (h4:g<W.heap.size)
  (o:w1.ownsRow n0 te 1 v' (out.length+1) (zsz out++[.string x])) (hgr:W.grownBy w1 v.ownBlock) (hat:v'.ownBlock=v.ownBlock∨v'.ownBlock=some (W.heap.size+1)):
  Boxed w1 B tb v∧vxz tb te n0 B g (out++[x]) (w1.setCell ⟨B,0,none⟩ v')∧(w1.setCell ⟨B,0,none⟩ v').heap[g]? =W.heap[g]? ∧Below n0 W (w1.setCell ⟨B,0,none⟩ v'):=by
 have hb1:Boxed w1 B tb v:=h1.kept hgr (h1.not_row hte h2)
 have hgs:=grownBy_setCell' w1 B v'
 refine ⟨hb1,⟨v',hb1.set v',?_,?_,?_⟩,?_,?_⟩
 ·rw[vSz,List.length_append]
  exact o.kept hgs (.inr (hb1.not_row hte o).symm)
 ·rcases hat with h|h
  ·rw[h];exact h3
  rw[h];intro e;cases e;omega
 ·exact Nat.lt_of_lt_of_le (Nat.lt_of_lt_of_le h4 hgr.size) hgs.size
 ·rw[hgs.block g (Nat.lt_of_lt_of_le h4 hgr.size) (fun e=>hgB (by cases e;rfl)),hgr.block g h4 h3]
 refine ((Below.refl n0 W).grown hgr hn fun j ej=> ?_).setCell (p:=⟨B,0,none⟩) hB v'
 exact (h2.lt j ej).1
theorem znSz{tb te:TypeId}(hte:tb≠te){n0 B g b cap:Nat}{out:List ByteArray}{W:World}(m:Nat)(hm:m≤out.length)(hgB:g≠B)(hB:n0≤B)
  (h1:Boxed W B tb (.slice (some ⟨b,0,none⟩) out.length cap)) (h2:W.ownsRow n0 te 1 (.slice (some ⟨b,0,none⟩) out.length cap) out.length (zsz out)) (h3:some g≠(Value.slice (some ⟨b,0,none⟩) out.length cap).ownBlock) (h4:g<W.heap.size):
  vxz tb te n0 B g (out.take m) (W.setCell ⟨B,0,none⟩ (.slice (some ⟨b,0,none⟩) m cap))∧(W.setCell ⟨B,0,none⟩ (.slice (some ⟨b,0,none⟩) m cap)).heap[g]? =W.heap[g]? ∧Below n0 W (W.setCell ⟨B,0,none⟩ (.slice (some ⟨b,0,none⟩) m cap)):=by
 have hgs:=grownBy_setCell' W B (.slice (some ⟨b,0,none⟩) m cap)
 have o:=zbgz h2 m hm
 rw[vXz]at o
 refine ⟨⟨_,h1.set _,?_,h3,Nat.lt_of_lt_of_le h4 hgs.size⟩,hgs.block g h4 (fun e=>hgB (by cases e;rfl)),(Below.refl n0 W).setCell (p:=⟨B,0,none⟩) hB _⟩
 rw[List.length_take,Nat.min_eq_left hm]
 exact o.kept hgs (.inr (h1.not_row hte o).symm)
theorem zd6z{W W':World}{g:Nat}(h:W'.heap[g]? =W.heap[g]?)(j:Nat):W'.cell? ⟨g,j,none⟩=W.cell? ⟨g,j,none⟩:=by
 simp only[World.cell?,h]
theorem zfPz{p:ByteArray}(h0:0<p.size)(h:p[0].toNat=47):zSz p=true:=by
 unfold zSz
 have e:p.data.toList.head? =some p[0]:=by
  rw[List.head?_eq_getElem?,List.getElem?_eq_getElem (by simpa using h0)]
  rfl
 rw[e,UInt8.toNat_inj.1 (show p[0].toNat=(47:UInt8).toNat from h)]
 rfl
theorem zhtz{p:ByteArray}(h0:0<p.size)(h:p[0].toNat≠47):zSz p=false:=by
 unfold zSz
 have e:p.data.toList.head? =some p[0]:=by
  rw[List.head?_eq_getElem?,List.getElem?_eq_getElem (by simpa using h0)]
  rfl
 rw[e,beq_eq_false_iff_ne]
 intro e2
 exact h (by rw[Option.some.inj e2];rfl)
theorem zdqz{p:ByteArray}(h0:p.size=0):zSz p=false:=by
 unfold zSz
 rw[List.eq_nil_of_length_eq_zero (show p.data.toList.length=0 by simpa using h0)]
 rfl
theorem zfQz{p:ByteArray}(h:zSz p=false):zLz p=p:=by unfold zLz;rw[h];rfl
theorem zhuz{p:ByteArray}(h:zSz p=true):(⟨(slL (ylz (zCz p))).toArray⟩:ByteArray)=zLz p:=by unfold zLz;rw[h];rfl
def voz(l:List ByteArray)(k:Nat):List ByteArray:=if k=l.length then ylz l else yHz (l.take k)
theorem zixz{l:List ByteArray}{k:Nat}(h:k<l.length):voz l k=yHz (l.take k):=by unfold voz;rw[if_neg (by omega)]
theorem zmIz(l:List ByteArray):voz l l.length=ylz l:=by unfold voz;rw[if_pos rfl]
theorem zpTz{l:List ByteArray}{k:Nat}(h:k+1=l.length):zbaz l=l.getD k ByteArray.empty:=by unfold zbaz;rw[←h];rfl
theorem zpUz{l:List ByteArray}{k:Nat}(h:k+1=l.length):yHz l=yXz (yHz (l.take k)) (l.getD k ByteArray.empty):=by
 rw[←zd1z l k (by omega),h,List.take_length]
theorem zj4z{l:List ByteArray}{k:Nat}(h:k+1<l.length):voz l (k+1)=yXz (voz l k) (l.getD k ByteArray.empty):=by
 rw[zixz h,zd1z l k (by omega),zixz (by omega)]
theorem zj5z{l:List ByteArray}{k:Nat}(h:k+1=l.length):voz l (k+1)=if isd (toL (l.getD k ByteArray.empty))=0 then yXz (voz l k) (l.getD k ByteArray.empty)else yXz (voz l k) (l.getD k ByteArray.empty)++[ByteArray.empty]:=by
 rw[h,zmIz]
 unfold ylz
 rw[zpTz h,zpUz h,zixz (show k<l.length by omega)]
theorem zlwz(l:List ByteArray)(k:Nat):(voz l k).length≤l.length:=by
 unfold voz
 split
 ·exact zbvz l
 exact Nat.le_trans (zekz _) (by rw[List.length_take];omega)
theorem zpVz{l:List ByteArray}{k:Nat}{x:ByteArray}(hk:k<l.length)(hx:l.getD k ByteArray.empty=x)(h:isd x.data.toList=0):voz l (k+1)=voz l k++[x]:=by
 by_cases hl:k+1=l.length
 ·rw[zj5z hl,hx,if_pos (show isd (toL x)=0 from h),zbTz h]
 rw[zj4z (by omega),hx,zbTz h]
theorem zrHz{l:List ByteArray}{k:Nat}{x:ByteArray}(hk:k<l.length)(hx:l.getD k ByteArray.empty=x)(h:isd x.data.toList≠0):voz l (k+1)=yXz (voz l k) x++(if k+1=l.length then [ByteArray.empty]else []):=by
 by_cases hl:k+1=l.length
 ·rw[if_pos hl,zj5z hl,hx,if_neg (show ¬isd (toL x)=0 from h)]
 rw[if_neg hl,zj4z (by omega),hx,List.append_nil]
theorem zdrz{w1:World}{B:Nat}{v:Value}{e:TypeId}{o:List ByteArray}{x:ByteArray}{m:Nat}(hm:m=o.length)(h:w1.ownsRow B e 1 v (m+1) (zsz o++ #[Value.string x].toList)):w1.ownsRow B e 1 v (o++[x]).length (zsz (o++[x])):=by
 subst hm
 rw[vSz,List.length_append]
 exact h
theorem zpWz{l:List ByteArray}{k:Nat}(hk:k<l.length){z y:ByteArray}(hz:z.data.toList=slL (l.take k))(hy:l.getD k ByteArray.empty=y):((z++(⟨#[47]⟩:ByteArray))++y).data.toList=slL (l.take (k+1)):=by
 rw[zcmz l k hk,hy,zrAz,←hz]
 simp[toL]
theorem zmJz{l:List ByteArray}{k n:Nat}{z:ByteArray}(h:z.data.toList=slL (l.take k))(hl:(slL l).length≤n):z.size≤n:=by
 have h1:=zrBz l k
 rw[←h]at h1
 have h2:z.data.toList.length=z.size:=by simp
 omega
theorem zcbz(p:ByteArray)(w:World)(hs:p.size≤16777216):
  Calls Tryz.prog 42 #[.string p] w fun e w'=>e=.returned (.string (zLz p))∧Below w.heap.size w w':=by
 by_cases h0:p.size=0
 ·have HD:Hid (p=zLz p):=(zfQz (zdqz h0)).symm
  have he:=ztz h0
  go_enter Tryz.func42,Tryz.ntmps42
  go_wp2
  go_ret
  exact ⟨ypz HD.out,Below.refl _ _⟩
 have he:=zwz (show 0<p.size by omega)
 by_cases h47:p[0].toNat=47
 ·have hr:=zfPz (by omega) h47
  have HD:Hid ((⟨(slL (ylz (zCz p))).toArray⟩:ByteArray)=zLz p):=zhuz hr
  have hpl:=za3z hr
  have hlp:=zdZz hr
  have hll:(zCz p).length≤16777217:=by
   rw[hpl]
   have h1:=(ywz (p.extract 1 p.size) 47 (p.extract 1 p.size).size).2
   have h2:(p.extract 1 p.size).size≤p.size:=by rw[ByteArray.size_extract];omega
   unfold zaz
   rw[List.length_append,List.length_singleton]
   omega
  have hxs: ∀j,((zCz p).getD j ByteArray.empty).size≤16777216:=fun j=>by
   by_cases hj:j<(zCz p).length
   ·have hm:(zCz p).getD j ByteArray.empty∈zCz p:=by
     rw[List.getD_eq_getElem?_getD,List.getElem?_eq_getElem hj]
     exact List.getElem_mem hj
    generalize (zCz p).getD j ByteArray.empty=y at hm
    rw[hpl]at hm
    have h1:=vKz _ _ _ hm
    rw[ByteArray.size_extract]at h1
    omega
   rw[List.getD_eq_getElem?_getD,List.getElem?_eq_none (by omega)]
   decide
  have hkz:(slL (ylz (zCz p))).length≤16777216:=by
   have h1:=zd0z (zCz p)
   rw[zdiz hr]at h1
   have h2:p.data.toList.length=p.size:=by simp
   omega
  have CF:Hid (∀W,Calls Tryz.prog 93 #[.string (p.extract 1 p.size),.int .u8 47] W fun e w'=> ∃v,e=.returned v∧w'.ownsRow W.heap.size 9 1 v (zCz p).length (zsz (zCz p))∧Below W.heap.size W w'):=fun W=>by
   have h1:=zecz (p.extract 1 p.size) 47 W (by rw[ByteArray.size_extract];omega)
   rw[←hpl]at h1
   exact h1
  clear hpl
  generalize zCz p=l at HD hlp hll hxs hkz CF
  have HX:Hid (∀j,(l.getD j ByteArray.empty).size≤16777216):=hxs
  clear hxs hr
  go_enter Tryz.func42,Tryz.ntmps42
  go_wp2_with fail
  refine (CF.out _).mono ?_
  rintro e wa ⟨va,rfl,oa,ba⟩
  have za:=ba.size
  rcases zrz oa with ⟨h,_⟩|⟨_,g,cp,rfl⟩
  ·omega
  have hglt:=(oa.lt g rfl).2
  have HC:Hid (∀j,j<l.length→wa.cell? ⟨g,j,none⟩=some (.string (l.getD j ByteArray.empty))):=fun j hj=>z2z oa j hj
  clear oa
  go_wp2_with fail
  go_loopw[4,5] (fun o i wr=> ∃k:Nat,k≤l.length∧i=.int .i64 k∧wr.ownsRow wa.heap.size 9 1 o (voz l k).length (zsz (voz l k))∧Below wa.heap.size wa wr)
   (fun _ i _=>l.length-(intOf i).toNat)
  case atStart=>exact ⟨0,Nat.zero_le _,rfl,by rw[zixz hlp];exact World.ownsRow_lit wa #[] 0 (Nat.le_refl _) (by decide) rfl,(Below.refl _ _).alloc (Nat.le_refl _) _⟩
  obtain ⟨k,hk,rfl,hown,hbel⟩:=hrel
  have hsz:=hbel.size
  have hcl:=zlwz l k
  by_cases hlt:k<l.length
  ·have hcell:wr.cell? ⟨g,k,none⟩=some (.string (l.getD k ByteArray.empty)):=by
    rw[zd6z (hbel.block g hglt) k]
    exact HC.out k hlt
   have hx1:=HX.out k
   obtain ⟨x,hx⟩: ∃x,l.getD k ByteArray.empty=x:=⟨_,rfl⟩
   rw[hx]at hcell hx1
   have hxi:(x.size:Int)≤16777216:=by omega
   have HXE:Hid (l.getD k ByteArray.empty=x):=hx
   have hd:=zlnz x.data.toList
   have CI:Hid (∀W,CS 94 #[.string x] W (.int .i64 (isd x.data.toList:Int))):=fun W=>zlvz x W hx1
   clear hx
   by_cases d0:isd x.data.toList=0
   ·have HN:Hid (voz l (k+1)=voz l k++[x]):=zpVz hlt HXE.out d0
    rw[d0]at CI
    clear d0 hd
    obtain ⟨O,hO⟩: ∃O,voz l k=O:=⟨_,rfl⟩
    rw[hO]at hown hcl HN
    clear hO
    go_wp2_with fail
    refine (CI.out _).mono ?_
    rintro e w' ⟨rfl,rfl⟩
    go_wp2_with (at_builtin;refine zbz _ rfl _ _ 86 rfl wa.heap.size 9 (.string ⟨#[]⟩) 16 Tryz.underlying86 Tryz.infoStr rfl _ _ _ rfl hown #[.string x] 1 rfl rfl (vJz _) (by omega) (by unfold maxLen;omega) (by omega) ?_)
    intro v' w1 hown' hb1
    have B1:Below wa.heap.size wa w1:=hbel.trans hb1
    clear hb1 hbel
    go_wp2
    go_roundw
    case rel=>exact ⟨k+1,by omega,by go_num,by rw[HN.out];exact zdrz rfl hown',B1⟩
    case measure=>simp[intOf];omega
   have HD2:Hid (voz l (k+1)=yXz (voz l k) x++(if k+1=l.length then [ByteArray.empty]else [])):=zrHz hlt HXE.out d0
   obtain ⟨O,hO⟩: ∃O,voz l k=O:=⟨_,rfl⟩
   rw[hO]at hown hcl HD2
   clear hO
   by_cases d2:isd x.data.toList=2
   ·rw[zjUz d2]at HD2
    rw[d2]at CI
    clear d0 d2 hd
    rcases zrz hown with ⟨hl,hnil,ao,cap,rfl⟩|⟨hl,b,cap,rfl⟩
    ·have hO:O.take (O.length-1)=O:=List.take_of_length_le (by omega)
     rw[hO]at HD2
     clear hO
     have HO0:Hid (O.length=0):=hl
     have hown2:wr.ownsRow wa.heap.size 9 1 (.slice ao 0 cap) 0 (zsz O):=by have h5:=hown;rw[hl]at h5;exact h5
     clear hnil
     by_cases hla:k+1=l.length
     ·rw[if_pos hla]at HD2
      have HN:Hid (voz l (k+1)=O++[ByteArray.empty]):=HD2.out
      have hki:(((k:Int):Int)==(l.length:Int)-1)=true:=by rw[beq_iff_eq];omega
      clear hla HD2 hown hl
      go_wp2_with fail
      refine (CI.out _).mono ?_
      rintro e w' ⟨rfl,rfl⟩
      go_wp2_with (at_builtin;refine zbz _ rfl _ _ 86 rfl wa.heap.size 9 (.string ⟨#[]⟩) 16 Tryz.underlying86 Tryz.infoStr rfl _ _ _ rfl hown2 #[.string ⟨#[]⟩] 1 rfl rfl (vJz _) (by omega) (by unfold maxLen;omega) (by omega) ?_)
      intro v' w1 hown' hb1
      have B1:Below wa.heap.size wa w1:=hbel.trans hb1
      clear hb1 hbel
      go_wp2
      go_roundw
      case rel=>exact ⟨k+1,by omega,by go_num,by rw[HN.out];exact zdrz HO0.out.symm hown',B1⟩
      case measure=>simp[intOf];omega
     rw[if_neg hla,List.append_nil]at HD2
     have HN:Hid (voz l (k+1)=O):=HD2.out
     have hki:(((k:Int):Int)==(l.length:Int)-1)=false:=by rw[beq_eq_false_iff_ne];omega
     clear hla HD2 hl
     go_wp2_with fail
     refine (CI.out _).mono ?_
     rintro e w' ⟨rfl,rfl⟩
     go_wp2
     go_roundw
     case rel=>exact ⟨k+1,by omega,by go_num,by rw[HN.out];exact hown,hbel⟩
     case measure=>simp[intOf];omega
    have hcap:=jlz hown
    have hown2:=zbgz hown (O.length-1) (by omega)
    rw[vXz]at hown2
    have HL:Hid (O.length-1=(O.take (O.length-1)).length):=by show _=_;rw[List.length_take];omega
    by_cases hla:k+1=l.length
    ·rw[if_pos hla]at HD2
     have HN:Hid (voz l (k+1)=O.take (O.length-1)++[ByteArray.empty]):=HD2.out
     have hki:(((k:Int):Int)==(l.length:Int)-1)=true:=by rw[beq_iff_eq];omega
     clear hla HD2 hown
     go_wp2_with fail
     refine (CI.out _).mono ?_
     rintro e w' ⟨rfl,rfl⟩
     go_wp2_with (at_builtin;refine zbz _ rfl _ _ 86 rfl wa.heap.size 9 (.string ⟨#[]⟩) 16 Tryz.underlying86 Tryz.infoStr rfl _ _ _ rfl hown2 #[.string ⟨#[]⟩] 1 rfl rfl (vJz _) (by omega) (by unfold maxLen;omega) (by omega) ?_)
     intro v' w1 hown' hb1
     have B1:Below wa.heap.size wa w1:=hbel.trans hb1
     clear hb1 hbel
     go_wp2
     go_roundw
     case rel=>exact ⟨k+1,by omega,by go_num,by rw[HN.out];exact zdrz HL.out hown',B1⟩
     case measure=>simp[intOf];omega
    rw[if_neg hla,List.append_nil]at HD2
    have HN:Hid (voz l (k+1)=O.take (O.length-1)):=HD2.out
    have hki:(((k:Int):Int)==(l.length:Int)-1)=false:=by rw[beq_eq_false_iff_ne];omega
    have hown3:wr.ownsRow wa.heap.size 9 1 (.slice (some ⟨b,0,none⟩) (O.length-1) cap) (O.take (O.length-1)).length (zsz (O.take (O.length-1))):=by rw[←HL.out];exact hown2
    clear hla HD2 hown hown2
    go_wp2_with fail
    refine (CI.out _).mono ?_
    rintro e w' ⟨rfl,rfl⟩
    go_wp2
    go_roundw
    case rel=>exact ⟨k+1,by omega,by go_num,by rw[HN.out];exact hown3,hbel⟩
    case measure=>simp[intOf];omega
   have d1:isd x.data.toList=1:=by omega
   rw[zjTz d1]at HD2
   rw[d1]at CI
   clear d0 d2 d1 hd
   by_cases hla:k+1=l.length
   ·rw[if_pos hla]at HD2
    have HN:Hid (voz l (k+1)=O++[ByteArray.empty]):=HD2.out
    have hki:(((k:Int):Int)==(l.length:Int)-1)=true:=by rw[beq_iff_eq];omega
    clear hla HD2
    go_wp2_with fail
    refine (CI.out _).mono ?_
    rintro e w' ⟨rfl,rfl⟩
    go_wp2_with (at_builtin;refine zbz _ rfl _ _ 86 rfl wa.heap.size 9 (.string ⟨#[]⟩) 16 Tryz.underlying86 Tryz.infoStr rfl _ _ _ rfl hown #[.string ⟨#[]⟩] 1 rfl rfl (vJz _) (by omega) (by unfold maxLen;omega) (by omega) ?_)
    intro v' w1 hown' hb1
    have B1:Below wa.heap.size wa w1:=hbel.trans hb1
    clear hb1 hbel
    go_wp2
    go_roundw
    case rel=>exact ⟨k+1,by omega,by go_num,by rw[HN.out];exact zdrz rfl hown',B1⟩
    case measure=>simp[intOf];omega
   rw[if_neg hla,List.append_nil]at HD2
   have HN:Hid (voz l (k+1)=O):=HD2.out
   have hki:(((k:Int):Int)==(l.length:Int)-1)=false:=by rw[beq_eq_false_iff_ne];omega
   clear hla HD2
   go_wp2_with fail
   refine (CI.out _).mono ?_
   rintro e w' ⟨rfl,rfl⟩
   go_wp2
   go_roundw
   case rel=>exact ⟨k+1,by omega,by go_num,by rw[HN.out];exact hown,hbel⟩
   case measure=>simp[intOf];omega
  have hke:k=l.length:=by omega
  rw[hke,zmIz]at hown
  clear hcl
  have hKn:=zisz hlp
  have hKl:=zbvz l
  generalize ylz l=K at hown hKn hKl HD hkz
  have HK:Hid (K≠[]):=hKn
  clear hKn
  rcases zrz hown with ⟨h,_⟩|⟨hK0,b,cap,rfl⟩
  ·exact absurd (List.eq_nil_of_length_eq_zero h) HK.out
  have HCK:Hid (∀j,j<K.length→wr.cell? ⟨b,j,none⟩=some (.string (K.getD j ByteArray.empty))):=fun j hj=>z2z hown j hj
  have hcap:=jlz hown
  have BW:Below w.heap.size w wr:=ba.trans (hbel.mono za)
  clear hown hbel hke
  go_wp2_with fail
  go_loop[7,8] (fun t i=> ∃(k:Nat) (z:ByteArray),k≤K.length∧i=.int .i64 k∧t=.string z∧z.data.toList=slL (K.take k)) (fun _ i=>K.length-(intOf i).toNat)
  case atStart=>exact ⟨0,⟨#[]⟩,Nat.zero_le _,rfl,rfl,rfl⟩
  obtain ⟨j,z,hj,rfl,rfl,hz⟩:=hrel
  have HZ:Hid (z.data.toList=slL (K.take j)):=hz
  have hzs:=zmJz hz hkz
  clear hz
  by_cases hjl:j<K.length
  ·have hc:=HCK.out j hjl
   obtain ⟨y,hy⟩: ∃y,K.getD j ByteArray.empty=y:=⟨_,rfl⟩
   rw[hy]at hc
   have HN:Hid (((z++(⟨#[47]⟩:ByteArray))++y).data.toList=slL (K.take (j+1))):=zpWz hjl HZ.out hy
   have hns:=zmJz HN.out hkz
   have hd1:(⟨#[47]⟩:ByteArray).size=1:=rfl
   have hys:y.size≤16777216:=by rw[ByteArray.size_append,ByteArray.size_append,hd1]at hns;omega
   clear hy hns
   go_wp2_with fail
   go_round
   case rel=>exact ⟨j+1,_,by omega,by go_num,rfl,HN.out⟩
   case measure=>simp[intOf];omega
  have HE:Hid (z=zLz p):=by
   show _=_
   rw[←HD.out]
   apply z3z
   show z.data.toList=_
   rw[HZ.out,List.take_of_length_le (by omega)]
   rfl
  go_wp2
  go_ret
  exact ⟨ypz HE.out,BW⟩
 have HD:Hid (p=zLz p):=(zfQz (zhtz (by omega) h47)).symm
 go_enter Tryz.func42,Tryz.ntmps42
 go_wp2
 go_ret
 exact ⟨ypz HD.out,Below.refl _ _⟩
theorem ziyz(p:ByteArray)(w:World)(hs:p.size≤1048576):
  Calls Tryz.prog 42 #[.string p] w fun e w'=>e=.returned (.string (zLz p))∧Below w.heap.size w w':=
 zcbz p w (by omega)
end Go.Proofs.YtgcbaphbiaimoaaGreatDoor
