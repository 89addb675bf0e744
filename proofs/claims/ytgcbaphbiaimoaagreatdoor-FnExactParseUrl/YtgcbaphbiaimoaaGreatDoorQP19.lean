/- CutOne, UrlImpl1, HostKinds, UrlKinds, ArrEq. -/
import Derived.Lib.IndexBytes
import Derived.Test.YtgcbaphbiaimoaaGreatDoorQP18
import Derived.Handy
import Derived.ChangeKeysEq
import Derived.Laws.StructEq
set_option maxHeartbeats 2000000
set_option maxRecDepth 100000
namespace Go.Proofs.YtgcbaphbiaimoaaGreatDoor
open Go.RowKit
theorem zsHz(c:UInt8)(s:ByteArray)(w:World)(hs:s.size≤16777216):
  Calls Tryz.prog 154 #[.string s,.string ⟨#[c]⟩] w fun e w'=>e=.returned (.tuple #[.string ⟨(upB c s.data.toList).toArray⟩,.string ⟨(y9z c s.data.toList).toArray⟩,.bool (s.data.toList.contains c)])∧Below w.heap.size w w':=by
 have hi:Lib.indexByte s.data.toList c=if s.data.toList.contains c then ((upB c s.data.toList).length:Int)else-1:=by rw[←Lib.index_one,v9z]
 have CI:Hid (∀W,CS 213 #[.string s,.string ⟨#[c]⟩] W (.int .i64 (Lib.indexByte s.data.toList c))):=fun W=>(Tryz.stringslite_Index_one s c W).mono fun e w' h=>⟨h.1,h.2.symm⟩
 obtain ⟨h1,h2,_⟩:=zexz c s.data.toList
 have hsl:s.data.toList.length=s.size:=by simp
 cases hc:s.data.toList.contains c with
 |false=>
  obtain ⟨e1,e2⟩:=h2 hc
  rw[hi,hc]at CI
  rw[e1,e2,zb4z]
  clear hi h1 h2 e1 e2 hc hsl
  go_enter Tryz.func154,Tryz.ntmps154
  go_wp2_with fail
  refine (CI.out _).mono ?_
  rintro e w' ⟨rfl,rfl⟩
  go_wp2
  go_ret3
  exact ⟨rfl,Below.refl _ _⟩
 |true=>
  have e:=h1 hc
  rw[hi,hc]at CI
  obtain ⟨k,hk⟩: ∃k,(upB c s.data.toList).length=k:=⟨_,rfl⟩
  have hlt:k+1≤s.size:=by
   have:=congrArg List.length e
   rw[List.length_append,List.length_cons,hk]at this
   omega
  have H1:Hid (s.extract 0 k=⟨(upB c s.data.toList).toArray⟩):=by
   show _=_
   have:s.data.toList.take k=upB c s.data.toList:=by
    conv=>lhs;arg 2;rw[e]
    rw[←hk,List.take_left']
    rfl
   rw[←this,←xUz,zb4z]
  have H2:Hid (s.extract (k+1) s.size=⟨(y9z c s.data.toList).toArray⟩):=by
   show _=_
   have:s.data.toList.drop (k+1)=y9z c s.data.toList:=by
    conv=>lhs;arg 2;rw[e]
    have h3:k+1=(upB c s.data.toList++[c]).length:=by simp[hk]
    rw[h3,show upB c s.data.toList++c::y9z c s.data.toList=(upB c s.data.toList++[c])++y9z c s.data.toList by simp,List.drop_left']
    rfl
   rw[←this,←xmz,zb4z]
  rw[if_pos rfl,hk]at CI
  clear hi h1 h2 e hk hc hsl
  go_enter Tryz.func154,Tryz.ntmps154
  go_wp2_with fail
  refine (CI.out _).mono ?_
  rintro e w' ⟨rfl,rfl⟩
  go_wp2
  go_region
  all_goals (try go_wp2)
  all_goals go_ret3
  all_goals exact ⟨by rw[←H1.out,←H2.out];rfl,(Below.refl _ _).drew⟩
theorem zafz(c:UInt8)(s:ByteArray)(w:World)(hs:s.size≤16777216):
  Calls Tryz.prog 102 #[.string s,.string ⟨#[c]⟩] w fun e w'=>e=.returned (.tuple #[.string ⟨(upB c s.data.toList).toArray⟩,.string ⟨(y9z c s.data.toList).toArray⟩,.bool (s.data.toList.contains c)])∧Below w.heap.size w w':=by
 have CC:Hid (∀W,CB 154 #[.string s,.string ⟨#[c]⟩] W (.tuple #[.string ⟨(upB c s.data.toList).toArray⟩,.string ⟨(y9z c s.data.toList).toArray⟩,.bool (s.data.toList.contains c)])):=fun W=>zsHz c s W hs
 generalize (⟨(upB c s.data.toList).toArray⟩:ByteArray)=A at CC⊢
 generalize (⟨(y9z c s.data.toList).toArray⟩:ByteArray)=B at CC⊢
 generalize s.data.toList.contains c=t at CC⊢
 go_enter Tryz.func102,Tryz.ntmps102
 go_wp2_with fail
 refine (CC.out _).mono ?_
 rintro e w1 ⟨rfl,b1⟩
 go_wp2
 go_ret3
 exact ⟨rfl,b1⟩
end Go.Proofs.YtgcbaphbiaimoaaGreatDoor
namespace Go.Proofs.YtgcbaphbiaimoaaGreatDoor
open Go.RowKit
set_option linter.unusedVariables false
theorem beq_bytes(a b:ByteArray):(a.toList==b.toList)=decide (a=b):=by
 rw[ByteArray.toList_eq,ByteArray.toList_eq]
 by_cases h:a=b
 ·subst h;rw[decide_eq_true rfl];exact beq_self_eq_true _
 rw[decide_eq_false h];exact beq_eq_false_iff_ne.2 (fun e=>h (zIz e))
theorem yVz(l:List UInt8):(⟨l.toArray⟩:ByteArray).size=l.length:=List.size_toArray
def schB(s:Int):ByteArray:=if s=1 then ⟨#[104,116,116,112,58]⟩else if s=2 then ⟨#[104,116,116,112,115,58]⟩else ⟨#[]⟩
theorem zsIz(s:Int):(schB s).toList.isEmpty=decide (zSz s=0):=by
 unfold schB zSz
 by_cases h1:s=1
 ·rw[if_pos h1,if_pos h1];exact zvz (u:=⟨#[104,116,116,112,58]⟩) (by decide)
 rw[if_neg h1,if_neg h1]
 by_cases h2:s=2
 ·rw[if_pos h2,if_pos h2];exact zvz (u:=⟨#[104,116,116,112,115,58]⟩) (by decide)
 rw[if_neg h2,if_neg h2];exact zsz (u:=⟨#[]⟩) rfl
theorem ztKz{s:Int}(h:zSz s≠0):schB s=⟨(vvz s).toArray⟩:=by
 unfold zSz at h
 unfold schB vvz
 by_cases h1:s=1
 ·subst h1;rfl
 rw[if_neg h1]at h
 by_cases h2:s=2
 ·subst h2;rfl
 rw[if_neg h2]at h;exact absurd rfl h
theorem zbVz(s:Int)(w:World):
  Calls Tryz.prog 32 #[.int .i64 s] w fun e w'=>e=.returned (.string (schB s))∧w=w':=by
 by_cases h1:s=1
 ·subst h1
  go_enter Tryz.func32,Tryz.ntmps32
  go_wp2
  go_ret
  exact ⟨rfl,rfl⟩
 have q1:(s==1)=false:=beq_eq_false_iff_ne.2 h1
 by_cases h2:s=2
 ·subst h2
  go_enter Tryz.func32,Tryz.ntmps32
  go_wp2
  go_ret
  exact ⟨rfl,rfl⟩
 have q2:(s==2)=false:=beq_eq_false_iff_ne.2 h2
 have HD:Hid (⟨#[]⟩=schB s):=by show _=_;unfold schB;rw[if_neg h1,if_neg h2]
 clear h1 h2
 go_enter Tryz.func32,Tryz.ntmps32
 go_wp2
 go_ret
 exact ⟨zUz HD.out,rfl⟩
theorem zgvz(n:Int)(w:World):
  Calls Tryz.prog 34 #[.int .i64 n] w fun e w'=>e=.returned (.bool (decide (1≤n∧n≤65535)))∧w=w':=by
 obtain ⟨b,hb⟩: ∃b,decide (1≤n∧n≤65535)=b:=⟨_,rfl⟩
 rw[hb]
 by_cases h1:0<n
 ·by_cases h2:n≤65535
  ·have HD:Hid (b=true):=hb.symm.trans (decide_eq_true ⟨by omega,h2⟩)
   clear hb
   go_enter Tryz.func34,Tryz.ntmps34
   go_wp2
   go_ret
   exact ⟨zgz HD.out.symm,rfl⟩
  have HD:Hid (b=false):=hb.symm.trans (decide_eq_false (by omega))
  clear hb
  go_enter Tryz.func34,Tryz.ntmps34
  go_wp2
  go_ret
  exact ⟨zgz HD.out.symm,rfl⟩
 have HD:Hid (b=false):=hb.symm.trans (decide_eq_false (by omega))
 clear hb
 go_enter Tryz.func34,Tryz.ntmps34
 go_wp2
 go_ret
 exact ⟨zgz HD.out.symm,rfl⟩
theorem zcDz(s:ByteArray)(set:Int)(w:World)(hM:xLz w)(hs:s.size≤4194304):
  Calls Tryz.prog 84 #[.string s,.int .i64 set] w fun e w'=>e=.returned (.bool (decide (plB set s=s)))∧Below w.heap.size w w':=by
 have CP:Hid (CB 104 #[.string s,.int .i64 set] w (.string (plB set s))):=zbTz s set w hM (by omega)
 have HB:Hid (((plB set s).toList==s.toList)=decide (plB set s=s)):=beq_bytes _ _
 generalize decide (plB set s=s)=b at HB⊢
 generalize plB set s=p at CP HB
 clear hM
 go_enter Tryz.func84,Tryz.ntmps84
 go_wp2_with fail
 refine CP.out.mono ?_
 rintro e wa ⟨rfl,ba⟩
 have hb:=HB.out
 go_wp2
 go_ret
 exact ⟨rfl,ba⟩
theorem zmaz(p:ByteArray)(w:World)(hM:xLz w)(hs:p.size≤1048576):
  Calls Tryz.prog 35 #[.string p] w fun e w'=>e=.returned (.bool (paOk p))∧Below w.heap.size w w':=by
 have CH:Hid (∀W,CS 83 #[.string p,.string ⟨#[47]⟩] W (.bool (zVz p))):=fun W=>
  (Tryz.strings_HasPrefix p ⟨#[47]⟩ W).mono fun e w' h=>⟨by rw[h.1,zcBz],h.2.symm⟩
 have CI:Hid (CB 84 #[.string p,.int .i64 1] w (.bool (decide (plB 1 p=p)))):=zcDz p 1 w hM (by omega)
 have CD:Hid (∀W,CB 85 #[.string p] W (.string (zXz p))):=fun W=>zjcz p W hs
 have HB:Hid (((zXz p).toList==p.toList)=decide (zXz p=p)):=beq_bytes _ _
 unfold paOk
 generalize decide (zXz p=p)=b3 at HB⊢
 generalize zXz p=q at CD HB
 generalize decide (plB 1 p=p)=b2 at CI⊢
 generalize zVz p=b1 at CH⊢
 clear hM
 cases b1 with
 |false=>
  go_enter Tryz.func35,Tryz.ntmps35
  go_wp2_with fail
  refine (CH.out _).mono ?_
  rintro e w' ⟨rfl,rfl⟩
  go_wp2
  go_ret
  exact ⟨rfl,Below.refl _ _⟩
 |true=>
  cases b2 with
  |false=>
   go_enter Tryz.func35,Tryz.ntmps35
   go_wp2_with fail
   refine (CH.out _).mono ?_
   rintro e w' ⟨rfl,rfl⟩
   go_wp2_with fail
   refine CI.out.mono ?_
   rintro e wa ⟨rfl,ba⟩
   go_wp2
   go_ret
   exact ⟨rfl,ba⟩
  |true=>
   go_enter Tryz.func35,Tryz.ntmps35
   go_wp2_with fail
   refine (CH.out _).mono ?_
   rintro e w' ⟨rfl,rfl⟩
   go_wp2_with fail
   refine CI.out.mono ?_
   rintro e wa ⟨rfl,ba⟩
   go_wp2_with fail
   refine (CD.out _).mono ?_
   rintro e wb ⟨rfl,bb⟩
   have hb:=HB.out
   go_wp2
   go_ret
   exact ⟨rfl,ba.trans (bb.mono ba.size)⟩
theorem zkTz(r:ByteArray)(q:Bool)(w:World)(hM:xLz w)(hs:r.size≤4194304):
  Calls Tryz.prog 36 #[.string r,.bool q] w fun e w'=>e=.returned (.bool (quOk r q))∧Below w.heap.size w w':=by
 have CI:Hid (CB 84 #[.string r,.int .i64 2] w (.bool (decide (plB 2 r=r)))):=zcDz r 2 w hM hs
 have HE:Hid (r.toList.isEmpty=decide (r.size=0)):=by
  show _=_
  by_cases h:r.size=0
  ·rw[zsz h,decide_eq_true h]
  rw[zvz (by omega),decide_eq_false h]
 unfold quOk
 generalize decide (plB 2 r=r)=b1 at CI⊢
 generalize decide (r.size=0)=b2 at HE⊢
 clear hM
 cases b1 with
 |false=>
  go_enter Tryz.func36,Tryz.ntmps36
  go_wp2_with fail
  refine CI.out.mono ?_
  rintro e wa ⟨rfl,ba⟩
  go_wp2
  go_ret
  exact ⟨rfl,ba⟩
 |true=>
  cases q with
  |true=>
   go_enter Tryz.func36,Tryz.ntmps36
   go_wp2_with fail
   refine CI.out.mono ?_
   rintro e wa ⟨rfl,ba⟩
   go_wp2
   go_ret
   exact ⟨rfl,ba⟩
  |false=>
   go_enter Tryz.func36,Tryz.ntmps36
   go_wp2_with fail
   refine CI.out.mono ?_
   rintro e wa ⟨rfl,ba⟩
   have he:=HE.out
   go_wp2
   go_ret
   exact ⟨rfl,ba⟩
theorem ztLz(c:UInt8):(0≤Lib.indexByte [9,10,13] c→j1z c=false)∧(Lib.indexByte [9,10,13] c<0→j1z c=true):=by
 have key: ∀n:Nat,n<256→(0≤Lib.indexByte [9,10,13] (UInt8.ofNat n)→j1z (UInt8.ofNat n)=false)∧(Lib.indexByte [9,10,13] (UInt8.ofNat n)<0→j1z (UInt8.ofNat n)=true):=by decide+kernel
 have h:=key c.toNat c.toNat_lt
 simpa using h
theorem zdSz(t:ByteArray)(w:World)(hts:t.size≤1048576):
  Calls Tryz.prog 147 #[.string t] w fun e w'=>e=.returned (.string ⟨(t.data.toList.filter j1z).toArray⟩)∧Below w.heap.size w w':=by
 obtain ⟨i0,hi,hz0,hz1,hz2⟩:=info_parts Tryz.info5
 go_enter Tryz.func147,Tryz.ntmps147
 go_wp2_with (at_make;refine wpList_make_own _ rfl _ _ 22 rfl w.heap.size 5 i0 (.int .u8 0) 1 Tryz.underlying22 hi hz0 hz1 _ _ _ t.size rfl rfl (by omega) (by rw[hz2];omega) (by unfold maxLen;omega) (Nat.le_refl _) ?_)
 intro wm hmo hgm
 have Bm:Below w.heap.size w wm:=(Below.refl _ _).grown hgm (Nat.le_refl _) (fun k hk=>by cases hk)
 have om:wm.ownsRow w.heap.size 5 1 (.slice (some ⟨w.heap.size,0,none⟩) 0 t.size) 0 []:=hmo
 clear hmo hgm
 go_wp2_with fail
 go_loopw[3,10] (fun b i wr=> ∃(k:Nat) (o:List UInt8),k≤t.size∧i=.int .i64 k∧o.length≤k∧wr.ownsRow w.heap.size 5 1 b o.length (zcz o)∧o++(t.data.toList.drop k).filter j1z=t.data.toList.filter j1z∧Below w.heap.size w wr)
  (fun _ i _=>t.size-(intOf i).toNat)
 case atStart=>exact ⟨0,[],Nat.zero_le _,rfl,Nat.zero_le _,om,rfl,Bm⟩
 obtain ⟨k,o,hk,rfl,hol,hown,he,hbel⟩:=hrel
 have HE:Hid (o++(t.data.toList.drop k).filter j1z=t.data.toList.filter j1z):=he
 clear he om Bm hi hz0 hz1 hz2
 have hsz:=hbel.size
 by_cases hlt:k<t.size
 ·have hdr:=xHz t k hlt
  rw[hdr]at HE
  clear hdr
  obtain ⟨d,hd⟩: ∃d:Nat,t[k].toNat=d:=⟨_,rfl⟩
  have hd2:d<256:=by rw[←hd];exact t[k].toNat_lt
  have CX:Hid (∀W,CS 204 #[.string ⟨#[9,10,13]⟩,.int .u8 (d:Int)] W (.int .i64 (Lib.indexByte [9,10,13] t[k]))):=fun W=>by
   have hu:((d:Int)).toNat.toUInt8=t[k]:=by rw[←hd];simp
   have h:=Tryz.strings_IndexByte ⟨#[9,10,13]⟩ (d:Int) W
   rw[hu]at h
   exact h.mono fun e w' h=>⟨h.1,h.2.symm⟩
  have hx:=ztLz t[k]
  by_cases h0:0≤Lib.indexByte [9,10,13] t[k]
  ·have hb:=hx.1 h0
   have HN:Hid (o++(t.data.toList.drop (k+1)).filter j1z=t.data.toList.filter j1z):=by show _=_;rw[←HE.out,List.filter_cons,hb];rfl
   clear hx hb
   generalize Lib.indexByte [9,10,13] t[k]=z at CX h0
   go_wp2_with fail
   refine (CX.out _).mono ?_
   rintro e w' ⟨rfl,rfl⟩
   go_wp2
   go_roundw
   case rel=>exact ⟨k+1,o,by omega,by go_num,by omega,hown,HN.out,hbel⟩
   case measure=>simp[intOf];omega
  have hb:=hx.2 (by omega)
  have HN:Hid ((o++[t[k]])++(t.data.toList.drop (k+1)).filter j1z=t.data.toList.filter j1z):=by show _=_;rw[←HE.out,List.filter_cons,hb];simp
  have HD:Hid ((d:Int)=(t[k].toNat:Int)):=by show _=_;omega
  clear hx hb
  generalize Lib.indexByte [9,10,13] t[k]=z at CX h0
  go_wp2_with fail
  refine (CX.out _).mono ?_
  rintro e w' ⟨rfl,rfl⟩
  go_wp2_with (at_builtin;refine zbz _ rfl _ _ 22 rfl w.heap.size 5 (.int .u8 0) 1 Tryz.underlying22 Tryz.info5 rfl _ _ _ rfl hown #[.int .u8 (d:Int)] 1 rfl rfl (x9z _) (by omega) (by unfold maxLen;omega) (by omega) ?_)
  intro v' w1 hown' hb1
  have R:=x8z t[k] HD.out hown'
  have B1:Below w.heap.size w w1:=hbel.trans hb1
  clear hown' hb1 hown hbel
  go_wp2
  go_roundw
  case rel=>exact ⟨k+1,_,by omega,by go_num,by simp;omega,R,HN.out,B1⟩
  case measure=>simp[intOf];omega
 have HN:Hid (o=t.data.toList.filter j1z):=by
  show _=_
  rw[←HE.out,List.drop_of_length_le (by simp;omega)]
  simp
 have HO:=zzz (P:=Tryz.prog) wr 22 9 5 Tryz.underlying22 Tryz.underlying5 Tryz.underlying9 hown
 go_wp2
 go_ret
 exact ⟨j2z HN.out,hbel⟩
theorem zfaz(s:ByteArray)(w:World)(hs:s.size≤1048576)(hM:MaxI w):
  Calls Tryz.prog 99 #[.string s] w fun e w'=>e=.returned (.string ⟨(ySz s.data.toList).toArray⟩)∧Below w.heap.size w w':=by
 have hsl:s.data.toList.length=s.size:=by simp
 have h1:=zdMz s.data.toList z1z
 have h2:=List.length_filter_le j1z (Lib.trimS s.data.toList z1z)
 have hts:(⟨(Lib.trimS s.data.toList z1z).toArray⟩:ByteArray).size≤1048576:=by rw[yVz];omega
 have hfs:(⟨((⟨(Lib.trimS s.data.toList z1z).toArray⟩:ByteArray).data.toList.filter j1z).toArray⟩:ByteArray).size≤1048576:=by
  rw[yVz]
  show ((Lib.trimS s.data.toList z1z).filter j1z).length≤_
  omega
 have CT:Hid (∀W,CB 148 #[.string s] W (.string ⟨(Lib.trimS s.data.toList z1z).toArray⟩)):=fun W=>zqyz s W (by omega)
 have HC:Hid ((⟨(upB 35 (⟨((⟨(Lib.trimS s.data.toList z1z).toArray⟩:ByteArray).data.toList.filter j1z).toArray⟩:ByteArray).data.toList).toArray⟩:ByteArray)=⟨(ySz s.data.toList).toArray⟩):=by
  show _=_
  rw[zoEz]
  rfl
 generalize (⟨(ySz s.data.toList).toArray⟩:ByteArray)=C at HC⊢
 generalize (⟨(Lib.trimS s.data.toList z1z).toArray⟩:ByteArray)=T at CT hts hfs HC
 have CW:Hid (∀W,CB 147 #[.string T] W (.string ⟨(T.data.toList.filter j1z).toArray⟩)):=fun W=>zdSz T W hts
 generalize (⟨(T.data.toList.filter j1z).toArray⟩:ByteArray)=F at CW hfs HC
 have CC:Hid (∀W,Below w.heap.size w W→CB 102 #[.string F,.string ⟨#[35]⟩] W (.tuple #[.string ⟨(upB 35 F.data.toList).toArray⟩,.string ⟨(y9z 35 F.data.toList).toArray⟩,.bool (F.data.toList.contains 35)])):=fun W hb=>zafz 35 F W (by omega)
 clear hM h1 h2 hsl
 go_enter Tryz.func99,Tryz.ntmps99
 go_wp2_with fail
 refine (CT.out _).mono ?_
 rintro e wa ⟨rfl,ba⟩
 go_wp2_with fail
 refine (CW.out _).mono ?_
 rintro e wb ⟨rfl,bb⟩
 have b2:=ba.trans (bb.mono ba.size)
 clear bb ba
 go_wp2_with fail
 refine (CC.out _ b2).mono ?_
 rintro e wc ⟨rfl,bc⟩
 go_wp2
 go_ret
 exact ⟨zUz HC.out,b2.trans (bc.mono b2.size)⟩
theorem zfbz(s:ByteArray)(w:World)(hs:s.size≤1048576):
  Calls Tryz.prog 145 #[.string s] w fun e w'=>e=.returned (.int .i64 (zcwz s.data.toList))∧Below w.heap.size w w':=by
 have CL:Hid (CB 172 #[.string s] w (.string ⟨(zdz s.data.toList).toArray⟩)):=zhkz s w hs
 have HN:Hid (zcwz s.data.toList=if (⟨(zdz s.data.toList).toArray⟩:ByteArray).data.toList=[104,116,116,112]then 1 else if (⟨(zdz s.data.toList).toArray⟩:ByteArray).data.toList=[104,116,116,112,115]then 2 else 0):=rfl
 generalize (⟨(zdz s.data.toList).toArray⟩:ByteArray)=L at CL HN
 generalize zcwz s.data.toList=z at HN⊢
 by_cases h1:L.data.toList=[104,116,116,112]
 ·have q1:=zeBz h1
  have HZ:Hid (1=z):=by show _=_;rw[HN.out,if_pos h1]
  clear h1 HN
  go_enter Tryz.func145,Tryz.ntmps145
  go_wp2_with fail
  refine CL.out.mono ?_
  rintro e wa ⟨rfl,ba⟩
  go_wp2
  go_ret
  exact ⟨znz HZ.out,ba⟩
 have q1:=zeCz h1
 by_cases h2:L.data.toList=[104,116,116,112,115]
 ·have q2:=zeBz h2
  have HZ:Hid (2=z):=by show _=_;rw[HN.out,if_neg h1,if_pos h2]
  clear h1 h2 HN
  go_enter Tryz.func145,Tryz.ntmps145
  go_wp2_with fail
  refine CL.out.mono ?_
  rintro e wa ⟨rfl,ba⟩
  go_wp2
  go_ret
  exact ⟨znz HZ.out,ba⟩
 have q2:=zeCz h2
 have HZ:Hid (0=z):=by show _=_;rw[HN.out,if_neg h1,if_neg h2]
 clear h1 h2 HN
 go_enter Tryz.func145,Tryz.ntmps145
 go_wp2_with fail
 refine CL.out.mono ?_
 rintro e wa ⟨rfl,ba⟩
 go_wp2
 go_ret
 exact ⟨znz HZ.out,ba⟩
def noV(c:Int):Value:=.iface 69 (.agg #[.int .i64 c])
def zmbz(r:Option (Int×List UInt8)):Value:=match r with
 |none=> .tuple #[.int .i64 0,.string ⟨#[]⟩,noV 2]
 |some (s,t)=> .tuple #[.int .i64 s,.string ⟨(t.dropWhile slB).toArray⟩,.nilIface]
theorem zkUz(l:List UInt8):Lib.trimLeftS l [47,92]=l.dropWhile slB:=by
 unfold Lib.trimLeftS
 congr 1
 funext c
 unfold slB
 by_cases h1:c=47
 ·subst h1;rfl
 by_cases h2:c=92
 ·subst h2;rfl
 simp[h1,h2]
theorem zgwz(t:ByteArray)(w:World)(hs:t.size≤1048576)(hM:MaxI w):
  Calls Tryz.prog 98 #[.string t] w fun e w'=>e=.returned (zmbz (yrz t.data.toList))∧Below w.heap.size w w':=by
 have hsl:t.data.toList.length=t.size:=by simp
 have hu:(upB 58 t.data.toList).length≤t.size:=by rw[←hsl];exact (List.takeWhile_prefix _).length_le
 have hb:(y9z 58 t.data.toList).length≤t.size:=by
  rw[←hsl]
  unfold y9z
  rw[List.length_drop]
  have:=(List.dropWhile_suffix (fun x=>x !=58) (l:=t.data.toList)).length_le
  omega
 have CC:Hid (CB 102 #[.string t,.string ⟨#[58]⟩] w (.tuple #[.string ⟨(upB 58 t.data.toList).toArray⟩,.string ⟨(y9z 58 t.data.toList).toArray⟩,.bool (t.data.toList.contains 58)])):=zafz 58 t w (by omega)
 have HW:Hid (yrz t.data.toList=if zcwz (⟨(upB 58 t.data.toList).toArray⟩:ByteArray).data.toList=0∨(⟨(y9z 58 t.data.toList).toArray⟩:ByteArray).data.toList.length-((⟨(y9z 58 t.data.toList).toArray⟩:ByteArray).data.toList.dropWhile slB).length<2 then none else some (zcwz (⟨(upB 58 t.data.toList).toArray⟩:ByteArray).data.toList,(⟨(y9z 58 t.data.toList).toArray⟩:ByteArray).data.toList)):=zl1z _
 have hus:(⟨(upB 58 t.data.toList).toArray⟩:ByteArray).size≤1048576:=by rw[yVz];omega
 have hbs:(⟨(y9z 58 t.data.toList).toArray⟩:ByteArray).size≤1048576:=by rw[yVz];omega
 generalize (⟨(upB 58 t.data.toList).toArray⟩:ByteArray)=U at CC HW hus
 generalize (⟨(y9z 58 t.data.toList).toArray⟩:ByteArray)=B at CC HW hbs
 generalize yrz t.data.toList=R at HW⊢
 generalize t.data.toList.contains 58=fnd at CC
 have CN:Hid (∀W,CB 145 #[.string U] W (.int .i64 (zcwz U.data.toList))):=fun W=>zfbz U W hus
 have CT:Hid (∀W,CB 146 #[.string B,.string ⟨#[47,92]⟩] W (.string ⟨(B.data.toList.dropWhile slB).toArray⟩)):=fun W=>by
  have h:=Any.strings_TrimLeft_laid Tryz.lays161 (by kernel_rfl) B ⟨#[47,92]⟩ W (by decide) (ascii_of_all (by decide))
  rw[show (⟨#[47,92]⟩:ByteArray).data.toList=[47,92] from rfl,zkUz]at h
  exact h
 have hr:(⟨(B.data.toList.dropWhile slB).toArray⟩:ByteArray).size=(B.data.toList.dropWhile slB).length:=yVz _
 have hB:B.size=B.data.toList.length:=by simp
 have hle:=(List.dropWhile_suffix slB (l:=B.data.toList)).length_le
 have HK:Hid (B.data.toList.length-(B.data.toList.dropWhile slB).length=B.size-(⟨(B.data.toList.dropWhile slB).toArray⟩:ByteArray).size):=by show _=_;omega
 have HR0:Hid (∀s:Int,zmbz (some (s,B.data.toList))=.tuple #[.int .i64 s,.string ⟨(B.data.toList.dropWhile slB).toArray⟩,.nilIface]):=fun s=>rfl
 have hrb:(⟨(B.data.toList.dropWhile slB).toArray⟩:ByteArray).size≤B.size:=by omega
 rw[HK.out]at HW
 generalize (⟨(B.data.toList.dropWhile slB).toArray⟩:ByteArray)=Z at CT HW HR0 hrb
 generalize zcwz U.data.toList=n at CN HW
 clear hr hB hle HK hsl hu hb hM
 go_enter Tryz.func98,Tryz.ntmps98
 go_wp2_with fail
 refine CC.out.mono ?_
 rintro e wa ⟨rfl,ba⟩
 go_wp2_with fail
 refine (CN.out _).mono ?_
 rintro e wb ⟨rfl,bb⟩
 have b2:=ba.trans (bb.mono ba.size)
 clear bb ba
 go_wp2_with fail
 refine (CT.out _).mono ?_
 rintro e wd ⟨rfl,bd⟩
 have b3:=b2.trans (bd.mono b2.size)
 clear bd b2 CC CN CT
 by_cases hn:n=0
 ·have HZ:Hid (R=none):=by show _=_;rw[HW.out,if_pos (.inl hn)]
  subst hn
  clear HW
  go_wp2
  go_ret3
  exact ⟨by rw[HZ.out];rfl,b3⟩
 have qn:(n==0)=false:=beq_eq_false_iff_ne.2 hn
 by_cases h2:B.size-Z.size<2
 ·have HZ:Hid (R=none):=by show _=_;rw[HW.out,if_pos (.inr h2)]
  have h2i:(B.size:Int)-(Z.size:Int)<2:=by omega
  clear HW hn h2
  go_wp2
  go_ret3
  exact ⟨by rw[HZ.out];rfl,b3⟩
 have HZ:Hid (R=some (n,B.data.toList)):=by show _=_;rw[HW.out,if_neg (by omega)]
 have h2i: ¬(B.size:Int)-(Z.size:Int)<2:=by omega
 clear HW hn h2
 go_wp2
 go_ret3
 exact ⟨by rw[HZ.out,HR0.out];rfl,b3⟩
theorem zkVz(A:ByteArray)(w:World)(hs:A.size≤1048576)(hM:MaxI w):
  Calls Tryz.prog 151 #[.string A] w fun e w'=>e=.returned (.tuple #[.string ⟨(hoB A).toArray⟩,.string ⟨(poB A).toArray⟩])∧Below w.heap.size w w':=by
 have hA:A.data.toList.length=A.size:=by simp
 obtain ⟨hf1,hf2⟩:=ztkz A
 have CL:Hid (∀W,CS 210 #[.string A,.int .u8 93] W (.int .i64 (Lib.lastIndexByte A 93))):=fun W=>(Tryz.strings_LastIndexByte A 93 (by omega) W).mono fun e w' h=>⟨h.1,h.2.symm⟩
 have hd:=xmz A (frB A)
 have ht:=xUz A (frB A)
 have hes:(A.extract (frB A) A.size).size≤1048576:=by rw[ByteArray.size_extract];omega
 have CC:Hid (CB 102 #[.string (A.extract (frB A) A.size),.string ⟨#[58]⟩] w (.tuple #[.string ⟨(upB 58 (A.extract (frB A) A.size).data.toList).toArray⟩,.string ⟨(poB A).toArray⟩,.bool ((A.extract (frB A) A.size).data.toList.contains 58)])):=by
  have h:=zafz 58 (A.extract (frB A) A.size) w (by omega)
  have e:y9z 58 (A.extract (frB A) A.size).data.toList=poB A:=by rw[hd];rfl
  rw[e]at h
  exact h
 have HO:Hid (A.extract 0 (frB A)++(⟨(upB 58 (A.extract (frB A) A.size).data.toList).toArray⟩:ByteArray)=⟨(hoB A).toArray⟩):=by
  apply zIz
  show toL _=hoB A
  unfold hoB
  rw[←ht,←hd]
  simp[toL]
 have hus:(⟨(upB 58 (A.extract (frB A) A.size).data.toList).toArray⟩:ByteArray).size≤1048576:=by
  rw[yVz,hd]
  have:=(List.takeWhile_prefix (fun x=>x !=58) (l:=A.data.toList.drop (frB A))).length_le
  unfold upB
  rw[List.length_drop]at this
  omega
 have hts:(A.extract 0 (frB A)).size≤1048576:=by rw[ByteArray.size_extract];omega
 generalize (⟨(upB 58 (A.extract (frB A) A.size).data.toList).toArray⟩:ByteArray)=U at CC HO hus
 generalize (⟨(poB A).toArray⟩:ByteArray)=Pt at CC⊢
 generalize (⟨(hoB A).toArray⟩:ByteArray)=Ho at HO⊢
 generalize (A.extract (frB A) A.size).data.toList.contains 58=fnd at CC
 generalize Lib.lastIndexByte A 93=z at CL hf2
 generalize frB A=f at*
 have hz:z=(f:Int)-1:=by omega
 subst hz
 clear hd ht hf2 hM hA hes
 have hfi:(f:Int)≤(A.size:Int):=by omega
 go_enter Tryz.func151,Tryz.ntmps151
 go_wp2_with fail
 refine (CL.out _).mono ?_
 rintro e w' ⟨rfl,rfl⟩
 have e1:(f:Int)-1+1=(f:Int):=by omega
 go_wp2_with fail
 refine CC.out.mono ?_
 rintro e wa ⟨rfl,ba⟩
 go_wp2
 go_ret2
 exact ⟨by rw[←HO.out];rfl,ba⟩
def zagz(s:Int)(p:List UInt8):Value:=if 1≤yJz s p∧yJz s p≤65535 then .tuple #[.int .i64 (yJz s p),.nilIface]else .tuple #[.int .i64 0,noV 5]
theorem zjdz(p:ByteArray)(s:Int)(w:World)(hs:s=1∨s=2):
  Calls Tryz.prog 152 #[.string p,.int .i64 s] w fun e w'=>e=.returned (zagz s p.data.toList)∧w=w':=by
 by_cases h0:p.size=0
 ·have CD:Hid (∀W,CS 17 #[.int .i64 s] W (.int .i64 (zSz s))):=fun W=>zbuz s W
  have HP:Hid (zagz s p.data.toList=.tuple #[.int .i64 (zSz s),.nilIface]):=by
   show _=_
   have e:p.data.toList=[]:=List.eq_nil_of_length_eq_zero (by simpa using h0)
   rw[e]
   rcases hs with rfl|rfl<;>rfl
  have hem:=zsz h0
  generalize zSz s=d at CD HP
  clear h0 hs
  go_enter Tryz.func152,Tryz.ntmps152
  go_wp2_with fail
  refine (CD.out _).mono ?_
  rintro e w' ⟨rfl,rfl⟩
  go_wp2
  go_ret2
  exact ⟨by rw[HP.out];rfl,rfl⟩
 have hem:=zvz (show 0<p.size by omega)
 have hne:p.data.toList≠[]:=fun e=>h0 (by have:=congrArg List.length e;simpa using this)
 have CG:Hid (∀W,CS 211 #[.string p,.int .i64 10,.int .i64 5] W (y1z (z4z 10 5 p.data.toList))):=fun W=>jIz p 10 5 W (by decide) (by decide)
 cases hn:z4z 10 5 p.data.toList with
 |none=>
  have hpn:yJz s p.data.toList= -1:=by unfold yJz;rw[if_neg hne,hn]
  rw[hn]at CG
  have HP:Hid (zagz s p.data.toList=.tuple #[.int .i64 0,noV 5]):=by show _=_;unfold zagz;rw[hpn,if_neg (by decide)]
  have CG2:Hid (∀W,CS 211 #[.string p,.int .i64 10,.int .i64 5] W (.tuple #[.int .i64 0,.bool false])):=CG
  clear h0 hs hne hn hpn CG
  go_enter Tryz.func152,Tryz.ntmps152
  go_wp2_with fail
  refine (CG2.out _).mono ?_
  rintro e w' ⟨rfl,rfl⟩
  go_wp2
  go_ret2
  exact ⟨by rw[HP.out];rfl,rfl⟩
 |some n=>
  have hpn:yJz s p.data.toList=(n:Int):=by unfold yJz;rw[if_neg hne,hn]
  rw[hn]at CG
  have CG2:Hid (∀W,CS 211 #[.string p,.int .i64 10,.int .i64 5] W (.tuple #[.int .i64 (n:Int),.bool true])):=CG
  have CK:Hid (∀W,CS 34 #[.int .i64 (n:Int)] W (.bool (decide (1≤(n:Int)∧(n:Int)≤65535)))):=fun W=>zgvz n W
  by_cases hk:1≤(n:Int)∧(n:Int)≤65535
  ·have HP:Hid (zagz s p.data.toList=.tuple #[.int .i64 (n:Int),.nilIface]):=by show _=_;unfold zagz;rw[hpn,if_pos hk]
   rw[decide_eq_true hk]at CK
   clear h0 hs hne hn hpn CG hk
   go_enter Tryz.func152,Tryz.ntmps152
   go_wp2_with fail
   refine (CG2.out _).mono ?_
   rintro e w' ⟨rfl,rfl⟩
   go_wp2_with fail
   refine (CK.out _).mono ?_
   rintro e w' ⟨rfl,rfl⟩
   go_wp2
   go_ret2
   exact ⟨by rw[HP.out];rfl,rfl⟩
  have HP:Hid (zagz s p.data.toList=.tuple #[.int .i64 0,noV 5]):=by show _=_;unfold zagz;rw[hpn,if_neg hk]
  rw[decide_eq_false hk]at CK
  clear h0 hs hne hn hpn CG hk
  go_enter Tryz.func152,Tryz.ntmps152
  go_wp2_with fail
  refine (CG2.out _).mono ?_
  rintro e w' ⟨rfl,rfl⟩
  go_wp2_with fail
  refine (CK.out _).mono ?_
  rintro e w' ⟨rfl,rfl⟩
  go_wp2
  go_ret2
  exact ⟨by rw[HP.out];rfl,rfl⟩
def ptP(l:ByteArray):ByteArray:=zXz (plB 1 ⟨(yRz (orSl l.data.toList)).toArray⟩)
theorem zoNz:zXz (plB 1 ⟨#[47]⟩)=⟨#[47]⟩:=by decide+kernel
theorem zqRz(s:ByteArray):Lib.countB s ⟨#[92]⟩≤s.size:=by
 unfold Lib.countB
 rw[show (⟨#[92]⟩:ByteArray).data.toList=[92] from rfl]
 unfold Lib.count
 rw[zatz 92 _ _ (by omega)]
 have:=List.count_le_length (a:=(92:UInt8)) (l:=s.data.toList)
 have e:s.data.toList.length=s.size:=by simp
 omega
theorem zhcz(s:ByteArray)(w:World)(hs:s.size≤4194304)(hK:xLz w)(hM:MaxI w):
  Calls Tryz.prog 103 #[.string s] w fun e w'=>e=.returned (.string (ptP s))∧Below w.heap.size w w':=by
 by_cases h0:s.size=0
 ·have hem:=zsz h0
  have HP:Hid (⟨#[47]⟩=ptP s):=by
   show _=_
   unfold ptP
   rw[List.eq_nil_of_length_eq_zero (show s.data.toList.length=0 by simpa using h0)]
   exact zoNz.symm
  clear h0 hK hM
  go_enter Tryz.func103,Tryz.ntmps103
  go_wp2
  go_ret
  exact ⟨zUz HP.out,Below.refl _ _⟩
 have hem:=zvz (show 0<s.size by omega)
 have hne:s.data.toList≠[]:=fun e=>h0 (by have:=congrArg List.length e;simpa using this)
 have hbl:(yRz s.data.toList).length=s.size:=by unfold yRz;simp
 have hor:orSl s.data.toList=s.data.toList:=by unfold orSl;rw[if_neg hne]
 have CR:Hid (CB 155 #[.string s,.string ⟨#[92]⟩,.string ⟨#[47]⟩] w (.string ⟨(yRz s.data.toList).toArray⟩)):=by
  obtain ⟨m,hm⟩:=hM
  have hc:=zqRz s
  have h:=Tryz.strings_ReplaceAll s ⟨#[92]⟩ ⟨#[47]⟩ m w (by omega) hm (by decide) (by
   rw[show (⟨#[47]⟩:ByteArray).size=1 from rfl]
   omega)
  rw[show (⟨#[92]⟩:ByteArray).data.toList=[92] from rfl,show (⟨#[47]⟩:ByteArray).data.toList=[47] from rfl,zkFz (by decide)]at h
  exact h
 have hbs:(⟨(yRz s.data.toList).toArray⟩:ByteArray).size≤4194304:=by rw[yVz];omega
 have HP:Hid (zXz (plB 1 ⟨(yRz s.data.toList).toArray⟩)=ptP s):=by show _=_;unfold ptP;rw[hor]
 generalize (⟨(yRz s.data.toList).toArray⟩:ByteArray)=Bk at CR hbs HP
 have CP:Hid (∀W,Below w.heap.size w W→CB 104 #[.string Bk,.int .i64 1] W (.string (plB 1 Bk))):=fun W hb=>zbTz Bk 1 W (hK.later hb) (by omega)
 have hps:(plB 1 Bk).size≤16777216:=by
  show (plL 1 (toL Bk)).toArray.size≤_
  rw[List.size_toArray]
  have h:=zlyz 1 (toL Bk)
  have h2:(toL Bk).length=Bk.size:=by simp[toL]
  omega
 generalize plB 1 Bk=Pl at CP hps HP
 have CD:Hid (∀W,CB 85 #[.string Pl] W (.string (zXz Pl))):=fun W=>zcCz Pl W hps
 generalize zXz Pl=Dr at CD HP
 clear h0 hne hbl hor hK hM
 go_enter Tryz.func103,Tryz.ntmps103
 go_wp2_with fail
 refine CR.out.mono ?_
 rintro e wa ⟨rfl,ba⟩
 go_wp2_with fail
 refine (CP.out _ ba).mono ?_
 rintro e wb ⟨rfl,bb⟩
 have b2:=ba.trans (bb.mono ba.size)
 clear bb ba
 go_wp2_with fail
 refine (CD.out _).mono ?_
 rintro e wc ⟨rfl,bc⟩
 go_wp2
 go_ret
 exact ⟨zUz HP.out,b2.trans (bc.mono b2.size)⟩
end Go.Proofs.YtgcbaphbiaimoaaGreatDoor
namespace Go.Proofs.YtgcbaphbiaimoaaGreatDoor
open Go.RowKit
def y0z(w W:World)(k:Int)(s:ByteArray)(n:Int)(x0 x1 x2 x3 x4 x5 x6 x7:Int):Prop:=
 W.cell? ⟨w.heap.size,0,none⟩=some (.int .i64 k)∧W.cell? ⟨w.heap.size,1,none⟩=some (.string s)∧W.cell? ⟨w.heap.size,2,none⟩=some (.int .i64 n)∧
 W.cell? ⟨w.heap.size,3,none⟩=some (.int .i64 x0)∧W.cell? ⟨w.heap.size,4,none⟩=some (.int .i64 x1)∧W.cell? ⟨w.heap.size,5,none⟩=some (.int .i64 x2)∧W.cell? ⟨w.heap.size,6,none⟩=some (.int .i64 x3)∧
 W.cell? ⟨w.heap.size,7,none⟩=some (.int .i64 x4)∧W.cell? ⟨w.heap.size,8,none⟩=some (.int .i64 x5)∧W.cell? ⟨w.heap.size,9,none⟩=some (.int .i64 x6)∧W.cell? ⟨w.heap.size,10,none⟩=some (.int .i64 x7)
theorem yyz(w W:World)(k:Int)(s:ByteArray)(n:Int)(x0 x1 x2 x3 x4 x5 x6 x7:Int)(t:TypeId)(hb:Below (w.alloc (.cells #[.int .i64 k,.string s,.int .i64 n,.int .i64 x0,.int .i64 x1,.int .i64 x2,.int .i64 x3,.int .i64 x4,.int .i64 x5,.int .i64 x6,.int .i64 x7] t)).heap.size (w.alloc (.cells #[.int .i64 k,.string s,.int .i64 n,.int .i64 x0,.int .i64 x1,.int .i64 x2,.int .i64 x3,.int .i64 x4,.int .i64 x5,.int .i64 x6,.int .i64 x7] t)) W):
  y0z w W k s n x0 x1 x2 x3 x4 x5 x6 x7:=by
 have key: ∀j v,(#[.int .i64 k,.string s,.int .i64 n,.int .i64 x0,.int .i64 x1,.int .i64 x2,.int .i64 x3,.int .i64 x4,.int .i64 x5,.int .i64 x6,.int .i64 x7]:Array Value)[j]? =some v→W.cell? ⟨w.heap.size,j,none⟩=some v:=fun j v h=>cell_later hb (by rw[World.cell?_alloc_at _ _ _ _ rfl];simpa using h)
 exact ⟨key 0 _ rfl,key 1 _ rfl,key 2 _ rfl,key 3 _ rfl,key 4 _ rfl,key 5 _ rfl,key 6 _ rfl,key 7 _ rfl,key 8 _ rfl,key 9 _ rfl,key 10 _ rfl⟩
theorem zeVz(w W:World)(cs:Array Value)(t:TypeId)(hb:Below (w.alloc (.cells cs t)).heap.size (w.alloc (.cells cs t)) W): ∀j,W.frozen? ⟨w.heap.size,j,none⟩=false:=
 fun j=>frozen_of_row W _ j _ t ((hb.block _ (by simp)).trans (heap_alloc_new w _))
def xgz(W:World)(B:Nat)(vs:List Value):Prop:= ∀j v,vs[j]? =some v→W.cell? ⟨B,j,none⟩=some v
theorem xgz.set{W:World}{B:Nat}{vs:List Value}(h:xgz W B vs)(j:Nat)(hj:j<vs.length)(x:Value):xgz (W.setCell ⟨B,j,none⟩ x) B (vs.set j x):=by
 intro i v hv
 by_cases e:j=i
 ·subst e
  rw[World.cell?_setCell_same' _ _ _ (by rw[h j _ (List.getElem?_eq_getElem hj)];rfl)]
  rw[List.getElem?_set_self hj]at hv
  exact hv
 rw[World.cell?_setCell_other _ _ _ _ (fun h=>e (by injection h)),h i v]
 rwa[List.getElem?_set_ne e]at hv
theorem xgz.other{W:World}{B:Nat}{vs:List Value}(h:xgz W B vs){C:Nat}(hne:B≠C)(j:Nat)(x:Value):xgz (W.setCell ⟨C,j,none⟩ x) B vs:=by
 intro i v hv
 rw[World.cell?_setCell_other _ _ _ _ (fun h=>hne (by injection h with h1 _;exact h1.symm))]
 exact h i v hv
def ymz(k:Int)(s:ByteArray)(n:Int)(x0 x1 x2 x3 x4 x5 x6 x7:Int):List Value:=[.int .i64 k,.string s,.int .i64 n,.int .i64 x0,.int .i64 x1,.int .i64 x2,.int .i64 x3,.int .i64 x4,.int .i64 x5,.int .i64 x6,.int .i64 x7]
theorem zjez{w W:World}{k n:Int}{s:ByteArray}{x0 x1 x2 x3 x4 x5 x6 x7:Int}(h:y0z w W k s n x0 x1 x2 x3 x4 x5 x6 x7):xgz W w.heap.size (ymz k s n x0 x1 x2 x3 x4 x5 x6 x7):=by
 obtain ⟨c0,c1,c2,c3,c4,c5,c6,c7,c8,c9,c10⟩:=h
 intro j v hv
 match j,hv with
 |0,hv=>cases hv;exact c0
 |1,hv=>cases hv;exact c1
 |2,hv=>cases hv;exact c2
 |3,hv=>cases hv;exact c3
 |4,hv=>cases hv;exact c4
 |5,hv=>cases hv;exact c5
 |6,hv=>cases hv;exact c6
 |7,hv=>cases hv;exact c7
 |8,hv=>cases hv;exact c8
 |9,hv=>cases hv;exact c9
 |10,hv=>cases hv;exact c10
 |j+11,hv=>simp[ymz]at hv
theorem y4z{W:World}{B:Nat}{k' n':Int}{s':ByteArray}{y0 y1 y2 y3 y4 y5 y6 y7:Int}(h:xgz W B (ymz k' s' n' y0 y1 y2 y3 y4 y5 y6 y7))(k n:Int)(s:ByteArray)(x0 x1 x2 x3 x4 x5 x6 x7:Int):xgz (((((((((((W.setCell ⟨B,0,none⟩ (.int .i64 k)).setCell ⟨B,1,none⟩ (.string s)).setCell ⟨B,2,none⟩ (.int .i64 n)).setCell ⟨B,3,none⟩ (.int .i64 x0)).setCell ⟨B,4,none⟩ (.int .i64 x1)).setCell ⟨B,5,none⟩ (.int .i64 x2)).setCell ⟨B,6,none⟩ (.int .i64 x3)).setCell ⟨B,7,none⟩ (.int .i64 x4)).setCell ⟨B,8,none⟩ (.int .i64 x5)).setCell ⟨B,9,none⟩ (.int .i64 x6)).setCell ⟨B,10,none⟩ (.int .i64 x7)) B (ymz k s n x0 x1 x2 x3 x4 x5 x6 x7):=
 ((((((((((h.set 0 (by simp[ymz]) (.int .i64 k)).set 1 (by simp[ymz]) (.string s)).set 2 (by simp[ymz]) (.int .i64 n)).set 3 (by simp[ymz]) (.int .i64 x0)).set 4 (by simp[ymz]) (.int .i64 x1)).set 5 (by simp[ymz]) (.int .i64 x2)).set 6 (by simp[ymz]) (.int .i64 x3)).set 7 (by simp[ymz]) (.int .i64 x4)).set 8 (by simp[ymz]) (.int .i64 x5)).set 9 (by simp[ymz]) (.int .i64 x6)).set 10 (by simp[ymz]) (.int .i64 x7)
theorem xAz{m:Nat}{w W:World}(h:Below m w W){B:Nat}(hB:m≤B)(k n:Int)(s:ByteArray)(x0 x1 x2 x3 x4 x5 x6 x7:Int):Below m w (((((((((((W.setCell ⟨B,0,none⟩ (.int .i64 k)).setCell ⟨B,1,none⟩ (.string s)).setCell ⟨B,2,none⟩ (.int .i64 n)).setCell ⟨B,3,none⟩ (.int .i64 x0)).setCell ⟨B,4,none⟩ (.int .i64 x1)).setCell ⟨B,5,none⟩ (.int .i64 x2)).setCell ⟨B,6,none⟩ (.int .i64 x3)).setCell ⟨B,7,none⟩ (.int .i64 x4)).setCell ⟨B,8,none⟩ (.int .i64 x5)).setCell ⟨B,9,none⟩ (.int .i64 x6)).setCell ⟨B,10,none⟩ (.int .i64 x7)):=by
 have st: ∀(U:World) (j:Nat) (x:Value),Below m w U→Below m w (U.setCell ⟨B,j,none⟩ x):=fun U j x hU=>hU.setCell (p:=⟨B,j,none⟩) hB _
 exact st _ _ _ (st _ _ _ (st _ _ _ (st _ _ _ (st _ _ _ (st _ _ _ (st _ _ _ (st _ _ _ (st _ _ _ (st _ _ _ (st _ _ _ h))))))))))
theorem jvz{fn:Func}{p:Tmp}(h:fn.results= #[.cell p 26])(tmps:Array Value)(W:World)(B:Nat)(k n:Int)(s:ByteArray)(x0 x1 x2 x3 x4 x5 x6 x7:Int)
  (hp:tmps[p]?.getD undef=.pointer (some ⟨B,0,none⟩)) (ha:xgz W B (ymz k s n x0 x1 x2 x3 x4 x5 x6 x7)):
  (results fn tmps).run Tryz.prog W=.ok (.agg #[.int .i64 k,.string s,.int .i64 n,.int .i64 x0,.int .i64 x1,.int .i64 x2,.int .i64 x3,.int .i64 x4,.int .i64 x5,.int .i64 x6,.int .i64 x7]) W:=by
 have c0:=ha 0 _ rfl
 have c1:=ha 1 _ rfl
 have c2:=ha 2 _ rfl
 have c3:=ha 3 _ rfl
 have c4:=ha 4 _ rfl
 have c5:=ha 5 _ rfl
 have c6:=ha 6 _ rfl
 have c7:=ha 7 _ rfl
 have c8:=ha 8 _ rfl
 have c9:=ha 9 _ rfl
 have c10:=ha 10 _ rfl
 simp[results,h,hp,asAddr,go_sem,c0,c1,c2,c3,c4,c5,c6,c7,c8,c9,c10,Addr.add_lit]
theorem xBz{fn:Func}{p q:Tmp}(h:fn.results= #[.cell p 26,.tmp q])(tmps:Array Value)(W:World)(B:Nat)(v:Value)(k n:Int)(s:ByteArray)(x0 x1 x2 x3 x4 x5 x6 x7:Int)
  (hp:tmps[p]?.getD undef=.pointer (some ⟨B,0,none⟩)) (hq:tmps[q]?.getD undef=v) (ha:xgz W B (ymz k s n x0 x1 x2 x3 x4 x5 x6 x7)):
  (results fn tmps).run Tryz.prog W=.ok (.tuple #[.agg #[.int .i64 k,.string s,.int .i64 n,.int .i64 x0,.int .i64 x1,.int .i64 x2,.int .i64 x3,.int .i64 x4,.int .i64 x5,.int .i64 x6,.int .i64 x7],v]) W:=by
 have c0:=ha 0 _ rfl
 have c1:=ha 1 _ rfl
 have c2:=ha 2 _ rfl
 have c3:=ha 3 _ rfl
 have c4:=ha 4 _ rfl
 have c5:=ha 5 _ rfl
 have c6:=ha 6 _ rfl
 have c7:=ha 7 _ rfl
 have c8:=ha 8 _ rfl
 have c9:=ha 9 _ rfl
 have c10:=ha 10 _ rfl
 simp[results,h,hp,hq,asAddr,go_sem,c0,c1,c2,c3,c4,c5,c6,c7,c8,c9,c10,Addr.add_lit]
theorem zeWz(n:Int)(s:ByteArray)(x0 x1 x2 x3 x4 x5 x6 x7:Int)(w:World):
  Calls Tryz.prog 81 #[.agg #[.int .i64 1,.string s,.int .i64 n,.int .i64 x0,.int .i64 x1,.int .i64 x2,.int .i64 x3,.int .i64 x4,.int .i64 x5,.int .i64 x6,.int .i64 x7]] w fun e w'=>e=.returned (.iface 142 (.string s))∧Below w.heap.size w w':=by
 go_enter Tryz.func81,Tryz.ntmps81
 go_wp2
 go_ret
 exact ⟨rfl,(Below.refl _ _).alloc (Nat.le_refl _) _⟩
theorem zeXz(n:Int)(s:ByteArray)(x0 x1 x2 x3 x4 x5 x6 x7:Int)(w:World):
  Calls Tryz.prog 81 #[.agg #[.int .i64 2,.string s,.int .i64 n,.int .i64 x0,.int .i64 x1,.int .i64 x2,.int .i64 x3,.int .i64 x4,.int .i64 x5,.int .i64 x6,.int .i64 x7]] w fun e w'=>e=.returned (.iface 143 (.int .i64 n))∧Below w.heap.size w w':=by
 go_enter Tryz.func81,Tryz.ntmps81
 go_wp2
 go_ret
 exact ⟨rfl,(Below.refl _ _).alloc (Nat.le_refl _) _⟩
theorem zeYz(n:Int)(s:ByteArray)(x0 x1 x2 x3 x4 x5 x6 x7:Int)(w:World):
  Calls Tryz.prog 81 #[.agg #[.int .i64 3,.string s,.int .i64 n,.int .i64 x0,.int .i64 x1,.int .i64 x2,.int .i64 x3,.int .i64 x4,.int .i64 x5,.int .i64 x6,.int .i64 x7]] w fun e w'=>e=.returned (.iface 144 (.agg #[.int .i64 x0,.int .i64 x1,.int .i64 x2,.int .i64 x3,.int .i64 x4,.int .i64 x5,.int .i64 x6,.int .i64 x7]))∧Below w.heap.size w w':=by
 go_enter Tryz.func81,Tryz.ntmps81
 go_wp2
 go_ret
 exact ⟨rfl,(Below.refl _ _).alloc (Nat.le_refl _) _⟩
theorem zkWz(k n:Int)(s:ByteArray)(x0 x1 x2 x3 x4 x5 x6 x7:Int)(w:World)(h1: ¬k=1)(h2: ¬k=2)(h3: ¬k=3):
  Calls Tryz.prog 81 #[.agg #[.int .i64 k,.string s,.int .i64 n,.int .i64 x0,.int .i64 x1,.int .i64 x2,.int .i64 x3,.int .i64 x4,.int .i64 x5,.int .i64 x6,.int .i64 x7]] w fun e w'=>e=.returned .nilIface∧Below w.heap.size w w':=by
 have q1:(k==1)=false:=beq_eq_false_iff_ne.2 h1
 have q2:(k==2)=false:=beq_eq_false_iff_ne.2 h2
 have q3:(k==3)=false:=beq_eq_false_iff_ne.2 h3
 clear h1 h2 h3
 go_enter Tryz.func81,Tryz.ntmps81
 go_wp2
 go_ret
 exact ⟨rfl,(Below.refl _ _).alloc (Nat.le_refl _) _⟩
theorem ta11(s:ByteArray)(W:World):(Instr.typeAssert (.iface 142 (.string s)) 99 142 true).run Tryz.prog W=.ok (.tuple #[.string s,.bool true]) W:=by kernel_rfl
theorem ta21(n:Int)(W:World):(Instr.typeAssert (.iface 143 (.int .i64 n)) 99 142 true).run Tryz.prog W=.ok (.tuple #[.string ⟨#[]⟩,.bool false]) W:=by kernel_rfl
theorem ta22(n:Int)(W:World):(Instr.typeAssert (.iface 143 (.int .i64 n)) 99 143 true).run Tryz.prog W=.ok (.tuple #[.int .i64 n,.bool true]) W:=by kernel_rfl
theorem ta31(v:Value)(W:World):(Instr.typeAssert (.iface 144 v) 99 142 true).run Tryz.prog W=.ok (.tuple #[.string ⟨#[]⟩,.bool false]) W:=by kernel_rfl
theorem ta32(v:Value)(W:World):(Instr.typeAssert (.iface 144 v) 99 143 true).run Tryz.prog W=.ok (.tuple #[.int .i64 0,.bool false]) W:=by kernel_rfl
theorem ta33(v:Value)(W:World):(Instr.typeAssert (.iface 144 v) 99 144 true).run Tryz.prog W=.ok (.tuple #[v,.bool true]) W:=by kernel_rfl
theorem ta01(W:World):(Instr.typeAssert .nilIface 99 142 true).run Tryz.prog W=.ok (.tuple #[.string ⟨#[]⟩,.bool false]) W:=by kernel_rfl
theorem ta02(W:World):(Instr.typeAssert .nilIface 99 143 true).run Tryz.prog W=.ok (.tuple #[.int .i64 0,.bool false]) W:=by kernel_rfl
theorem ta03(W:World):(Instr.typeAssert .nilIface 99 144 true).run Tryz.prog W=.ok (.tuple #[.agg #[.int .i64 0,.int .i64 0,.int .i64 0,.int .i64 0,.int .i64 0,.int .i64 0,.int .i64 0,.int .i64 0],.bool false]) W:=by kernel_rfl
theorem zdTz(s:ByteArray)(w:World):
  Calls Tryz.prog 82 #[.iface 142 (.string s)] w fun e w'=>e=.returned (.agg #[.int .i64 1,.string s,.int .i64 0,.int .i64 0,.int .i64 0,.int .i64 0,.int .i64 0,.int .i64 0,.int .i64 0,.int .i64 0,.int .i64 0])∧Below w.heap.size w w':=by
 have t1:=ta11 s
 go_enter Tryz.func82,Tryz.ntmps82
 go_wp2
 go_returns
 exact ⟨rfl,by go_grown⟩
theorem zdUz(n:Int)(w:World):
  Calls Tryz.prog 82 #[.iface 143 (.int .i64 n)] w fun e w'=>e=.returned (.agg #[.int .i64 2,.string ⟨#[]⟩,.int .i64 n,.int .i64 0,.int .i64 0,.int .i64 0,.int .i64 0,.int .i64 0,.int .i64 0,.int .i64 0,.int .i64 0])∧Below w.heap.size w w':=by
 have t1:=ta21 n
 have t2:=ta22 n
 go_enter Tryz.func82,Tryz.ntmps82
 go_wp2
 go_returns
 exact ⟨rfl,by go_grown⟩
theorem zdVz(x0 x1 x2 x3 x4 x5 x6 x7:Int)(w:World):
  Calls Tryz.prog 82 #[.iface 144 (.agg #[.int .i64 x0,.int .i64 x1,.int .i64 x2,.int .i64 x3,.int .i64 x4,.int .i64 x5,.int .i64 x6,.int .i64 x7])] w fun e w'=>e=.returned (.agg #[.int .i64 3,.string ⟨#[]⟩,.int .i64 0,.int .i64 x0,.int .i64 x1,.int .i64 x2,.int .i64 x3,.int .i64 x4,.int .i64 x5,.int .i64 x6,.int .i64 x7])∧Below w.heap.size w w':=by
 have t1:=ta31 (.agg #[.int .i64 x0,.int .i64 x1,.int .i64 x2,.int .i64 x3,.int .i64 x4,.int .i64 x5,.int .i64 x6,.int .i64 x7])
 have t2:=ta32 (.agg #[.int .i64 x0,.int .i64 x1,.int .i64 x2,.int .i64 x3,.int .i64 x4,.int .i64 x5,.int .i64 x6,.int .i64 x7])
 have t3:=ta33 (.agg #[.int .i64 x0,.int .i64 x1,.int .i64 x2,.int .i64 x3,.int .i64 x4,.int .i64 x5,.int .i64 x6,.int .i64 x7])
 go_enter Tryz.func82,Tryz.ntmps82
 go_wp2
 go_returns
 exact ⟨rfl,by go_grown⟩
theorem zjfz(w:World):
  Calls Tryz.prog 82 #[.nilIface] w fun e w'=>e=.returned (.agg #[.int .i64 0,.string ⟨#[]⟩,.int .i64 0,.int .i64 0,.int .i64 0,.int .i64 0,.int .i64 0,.int .i64 0,.int .i64 0,.int .i64 0,.int .i64 0])∧Below w.heap.size w w':=by
 have t1:=ta01
 have t2:=ta02
 have t3:=ta03
 go_enter Tryz.func82,Tryz.ntmps82
 go_wp2
 go_returns
 exact ⟨rfl,by go_grown⟩
def UAt(W:World)(B:Nat)(vs:List Value):Prop:=xgz W B vs∧(∀j,W.frozen? ⟨B,j,none⟩=false)∧B<W.heap.size
theorem UAt.new(w:World)(vs:Array Value)(t:TypeId):UAt (w.alloc (.cells vs t)) w.heap.size vs.toList:=by
 refine ⟨fun j v h=> ?_,fun j=>frozen_of_row _ _ j _ t (heap_alloc_new w _),by simp⟩
 rw[World.cell?_alloc_at _ _ _ _ rfl]
 simpa using h
theorem UAt.below{W W':World}{B:Nat}{vs:List Value}(h:UAt W B vs)(hb:Below W.heap.size W W'):UAt W' B vs:=by
 have hs:=hb.block B h.2.2
 refine ⟨fun j v hv=>cell_later hb (h.1 j v hv),fun j=> ?_,Nat.lt_of_lt_of_le h.2.2 hb.size⟩
 have hf:=h.2.1 j
 unfold World.frozen? at hf⊢
 rw[hs]
 exact hf
theorem zgxz(W:World)(B C j i:Nat)(v:Value)(h:W.frozen? ⟨B,i,none⟩=false):(W.setCell ⟨C,j,none⟩ v).frozen? ⟨B,i,none⟩=false:=by
 simpa[go_sem] using h
theorem UAt.set{W:World}{B:Nat}{vs:List Value}(h:UAt W B vs)(j:Nat)(hj:j<vs.length)(v:Value):UAt (W.setCell ⟨B,j,none⟩ v) B (vs.set j v):=
 ⟨h.1.set j hj v,fun i=>zgxz W B B j i v (h.2.1 i),Nat.lt_of_lt_of_le h.2.2 (KeepsWalks.setCell W _ v).size⟩
theorem UAt.other{W:World}{B C:Nat}{vs:List Value}(h:UAt W B vs)(hne:B≠C)(j:Nat)(v:Value):UAt (W.setCell ⟨C,j,none⟩ v) B vs:=
 ⟨h.1.other hne j v,fun i=>zgxz W B C j i v (h.2.1 i),Nat.lt_of_lt_of_le h.2.2 (KeepsWalks.setCell W _ v).size⟩
def zmcz(W:World)(C:Nat):Nat→List Value→World
 |_,[]=>W
 |j,v::vs=>zmcz (W.setCell ⟨C,j,none⟩ v) C (j+1) vs
theorem UAt.row: ∀{vs:List Value} {W:World} {C:Nat} {pre old:List Value},UAt W C (pre++old)→old.length=vs.length→UAt (zmcz W C pre.length vs) C (pre++vs)
 |[],W,C,pre,old,h,hl=>by
  have:old=[]:=List.eq_nil_of_length_eq_zero hl
  subst this
  exact h
 |v::vs,W,C,pre,[],h,hl=>by simp at hl
 |v::vs,W,C,pre,o::old,h,hl=>by
  have h1:=h.set pre.length (by simp) v
  rw[List.set_append_right _ _ (Nat.le_refl _),Nat.sub_self,List.set_cons_zero]at h1
  have h2:UAt (W.setCell ⟨C,pre.length,none⟩ v) C ((pre++[v])++old):=by rw[List.append_assoc];exact h1
  have h3:=UAt.row (vs:=vs) h2 (by simpa using hl)
  rw[List.length_append,List.length_singleton,List.append_assoc]at h3
  exact h3
theorem UAt.whole{vs old:List Value}{W:World}{C:Nat}(h:UAt W C old)(hl:old.length=vs.length):UAt (zmcz W C 0 vs) C vs:=UAt.row (pre:=[]) h hl
def zqz(s k:Int)(nm:ByteArray)(n:Int)(x0 x1 x2 x3 x4 x5 x6 x7:Int)(p:Int)(a:ByteArray)(q:Bool)(r:ByteArray):List Value:=[.int .i64 s,.int .i64 k,.string nm,.int .i64 n,.int .i64 x0,.int .i64 x1,.int .i64 x2,.int .i64 x3,.int .i64 x4,.int .i64 x5,.int .i64 x6,.int .i64 x7,.int .i64 p,.string a,.bool q,.string r]
def zHz:List Value:=zqz 0 0 ⟨#[]⟩ 0 0 0 0 0 0 0 0 0 0 ⟨#[]⟩ false ⟨#[]⟩

end Go.Proofs.YtgcbaphbiaimoaaGreatDoor
