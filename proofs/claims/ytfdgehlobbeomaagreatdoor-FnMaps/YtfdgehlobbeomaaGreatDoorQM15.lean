/- TokImpl1. -/
import Derived.Test.YtfdgehlobbeomaaGreatDoorQM11
set_option maxHeartbeats 2000000
set_option maxRecDepth 100000
namespace Go.Proofs.YtfdgehlobbeomaaGreatDoor
open Go.RowKit
set_option linter.unusedVariables false
theorem tok_result1{fn:Func}{q:Tmp}(h:fn.results= #[.cell q 74])(tmps:Array Value)(W:World)(B:Nat)(a b:Value)
  (hp:tmps[q]?.getD undef=.pointer (some ⟨B,0,none⟩)) (ha:BAt W B [a,b]):(results fn tmps).run Tryz.prog W=.ok (.agg #[a,b]) W:=by
 have c0:=ha.1 0 _ rfl
 have c1:=ha.1 1 _ rfl
 simp[results,h,hp,asAddr,go_sem,c0,c1,Addr.add_lit]
theorem implNewToken(k:Int)(s:ByteArray)(w:World)(hs:s.size≤16777216):
  Calls Tryz.prog 112 #[.int .i64 k,.string s] w fun e w'=>e=.returned (.agg #[.int .i64 k,.string s])∧Below w.heap.size w w':=by
 obtain ⟨O,hO⟩: ∃O,O=w.alloc (.cells #[.int .i64 0,.string ⟨#[]⟩] 74):=⟨_,rfl⟩
 have bO:Below w.heap.size w O:=by rw[hO];exact (Below.refl _ _).alloc (Nat.le_refl _) _
 have AO:BAt O w.heap.size [.int .i64 0,.string ⟨#[]⟩]:=by rw[hO];exact BAt.new w #[.int .i64 0,.string ⟨#[]⟩] _
 have CC:Hid (∀W,CB 91 #[.string s] W (.string s)):=fun W=>strClone s W (by omega)
 go_enter Tryz.func112,Tryz.ntmps112
 go_upto_region 1 with fail
 rw[←hO]
 clear hO
 go_wp2_with fail
 refine (CC.out _).mono ?_
 rintro e w1 ⟨rfl,b1⟩
 have A1:=AO.below b1
 have B1:=bO.trans (b1.mono bO.size)
 clear CC AO b1 bO
 have r0:=A1.1 0 _ rfl
 have r1:=A1.1 1 _ rfl
 have f1:=A1.2.1
 go_wp2_with fail
 exact bodyPost_ret (tok_result1 rfl _ _ w.heap.size (.int .i64 k) (.string s) rfl ((A1.set 0 (by simp) _).set 1 (by simp) _)) rfl ⟨rfl,(B1.setCell (by simp) _).setCell (by simp) _⟩
theorem nm_index: ∀d,d<256→(letterN d||(decide (48≤(d:Int)∧(d:Int)≤57)||decide (0≤Lib.indexByte [58,95,45,46] d.toUInt8)))=nmB d.toUInt8:=by decide+kernel
theorem blk_index: ∀d,d<256→decide (0≤Lib.indexByte [32,9,10,13] d.toUInt8)=blkB d.toUInt8:=by decide+kernel
theorem byte_of{c:UInt8}{d:Nat}(h:c.toNat=d):d.toUInt8=c:=by subst h;simp
theorem implNameByte(c:UInt8)(d:Nat)(w:World)(hd:c.toNat=d):
  Calls Tryz.prog 126 #[.int .u8 (d:Int)] w fun e w'=>e=.returned (.bool (nmB c))∧w=w':=by
 have hd2:d<256:=by rw[←hd];exact c.toNat_lt
 have hx:=nm_index d hd2
 rw[byte_of hd]at hx
 have CL:Hid (∀W,CS 132 #[.int .u8 (d:Int)] W (.bool (letterN d))):=fun W=>implIsLetter d W (by omega)
 have CD:Hid (∀W,CS 65 #[.int .u8 (d:Int)] W (.bool (decide (48≤(d:Int)∧(d:Int)≤57)))):=fun W=>implIsDigit d W (by omega)
 have CI:Hid (∀W,CS 113 #[.string ⟨#[58,95,45,46]⟩,.int .u8 (d:Int)] W (.int .i64 (Lib.indexByte [58,95,45,46] c))):=fun W=>(Tryz.strings_IndexByte ⟨#[58,95,45,46]⟩ (d:Int) W).mono fun e w' h=>⟨by rw[h.1,Int.toNat_natCast,byte_of hd],h.2.symm⟩
 generalize letterN d=b1 at*
 generalize decide (48≤(d:Int)∧(d:Int)≤57)=b2 at*
 generalize Lib.indexByte [58,95,45,46] c=z at*
 have HX:Hid ((b1||(b2||decide (0≤z)))=nmB c):=hx
 clear hx hd hd2
 cases b1 with
 |true=>
  go_enter Tryz.func126,Tryz.ntmps126
  go_wp2_with fail
  refine (CL.out _).mono ?_
  rintro e w' ⟨rfl,rfl⟩
  go_wp2_with fail
  go_ret
  exact ⟨by rw[←HX.out];rfl,rfl⟩
 |false=>
  cases b2 with
  |true=>
   go_enter Tryz.func126,Tryz.ntmps126
   go_wp2_with fail
   refine (CL.out _).mono ?_
   rintro e w' ⟨rfl,rfl⟩
   go_wp2_with fail
   refine (CD.out _).mono ?_
   rintro e w' ⟨rfl,rfl⟩
   go_wp2_with fail
   go_ret
   exact ⟨by rw[←HX.out];rfl,rfl⟩
  |false=>
   by_cases hz:0≤z
   ·have HY:Hid (nmB c=true):=by have:=HX.out;rw[decide_eq_true hz]at this;exact this.symm
    go_enter Tryz.func126,Tryz.ntmps126
    go_wp2_with fail
    refine (CL.out _).mono ?_
    rintro e w' ⟨rfl,rfl⟩
    go_wp2_with fail
    refine (CD.out _).mono ?_
    rintro e w' ⟨rfl,rfl⟩
    go_wp2_with fail
    refine (CI.out _).mono ?_
    rintro e w' ⟨rfl,rfl⟩
    go_wp2_with fail
    go_ret
    exact ⟨by rw[HY.out];rfl,rfl⟩
   have HY:Hid (nmB c=false):=by have:=HX.out;rw[decide_eq_false hz]at this;exact this.symm
   go_enter Tryz.func126,Tryz.ntmps126
   go_wp2_with fail
   refine (CL.out _).mono ?_
   rintro e w' ⟨rfl,rfl⟩
   go_wp2_with fail
   refine (CD.out _).mono ?_
   rintro e w' ⟨rfl,rfl⟩
   go_wp2_with fail
   refine (CI.out _).mono ?_
   rintro e w' ⟨rfl,rfl⟩
   go_wp2_with fail
   go_ret
   exact ⟨by rw[HY.out];show Ending.returned (.bool (decide (0≤z)))=_;rw[decide_eq_false (by omega)],rfl⟩
theorem tw_at{p:UInt8→Bool}: ∀(k:Nat) {l:List UInt8},(∀c∈l.take k,p c=true)→(k=l.length∨ ∃c,l[k]? =some c∧p c=false)→l.takeWhile p=l.take k∧l.dropWhile p=l.drop k
 |0,l,_,h=>by
  rcases h with h|⟨c,hc,hp⟩
  ·obtain rfl:l=[]:=List.eq_nil_of_length_eq_zero h.symm
   exact ⟨rfl,rfl⟩
  cases l with
  |nil=>cases hc
  |cons d t=>
   simp at hc
   subst hc
   rw[List.takeWhile_cons,List.dropWhile_cons,hp]
   exact ⟨rfl,rfl⟩
 |k+1,[],_,h=>⟨rfl,rfl⟩
 |k+1,d::t,h1,h=>by
  have hd:p d=true:=h1 d (by rw[List.take_succ_cons];exact List.mem_cons_self)
  have:=tw_at k (l:=t) (fun c hc=>h1 c (by rw[List.take_succ_cons];exact List.mem_cons_of_mem _ hc)) (by
   rcases h with h|⟨c,hc,hp⟩
   ·exact .inl (by simpa using h)
   exact .inr ⟨c,by simpa using hc,hp⟩)
  rw[List.takeWhile_cons,List.dropWhile_cons,hd,List.take_succ_cons,List.drop_succ_cons,if_pos rfl,if_pos rfl,this.1,this.2]
  exact ⟨rfl,rfl⟩
theorem implCutName(s:ByteArray)(w:World)(hs:s.size≤16777216):
  Calls Tryz.prog 114 #[.string s] w fun e w'=>e=.returned (.tuple #[.string ⟨(s.data.toList.takeWhile nmB).toArray⟩,.string ⟨(s.data.toList.dropWhile nmB).toArray⟩])∧Below w.heap.size w w':=by
 have hsl:s.data.toList.length=s.size:=by simp
 have HSL:Hid (s.data.toList.length=s.size):=hsl
 clear hsl
 go_enter Tryz.func114,Tryz.ntmps114
 go_wp2_with fail
 go_loop[4] (fun i=> ∃k:Nat,k≤s.size∧i=.int .i64 (k:Int)∧Hid (∀c∈s.data.toList.take k,nmB c=true)) (fun i=>s.size-(intOf i).toNat)
 case atStart=>exact ⟨0,Nat.zero_le _,rfl,fun c hc=>by cases hc⟩
 obtain ⟨k,hk,rfl,HA⟩:=hrel
 have fin:(k=s.size∨ ∃c,s.data.toList[k]? =some c∧nmB c=false)→s.extract 0 k=⟨(s.data.toList.takeWhile nmB).toArray⟩∧s.extract k s.size=⟨(s.data.toList.dropWhile nmB).toArray⟩:=fun h=>by
  obtain ⟨e1,e2⟩:=tw_at k (l:=s.data.toList) HA.out (by rw[HSL.out];exact h)
  rw[e1,e2]
  exact ⟨by rw[←take_data,mk_data],by rw[←drop_data,mk_data]⟩
 by_cases hlt:k<s.size
 ·have hki:(k:Int)<s.size:=by omega
  obtain ⟨d,hd⟩: ∃d:Nat,(s[k]'hlt).toNat=d:=⟨_,rfl⟩
  have ix:=run_at Tryz.prog 9 Tryz.underlying9 s (k:Int) k d hlt rfl hd
  have hg:s.data.toList[k]? =some (s[k]'hlt):=by
   rw[List.getElem?_eq_getElem (by simp;omega)]
   rfl
  have CN:Hid (∀W,CS 126 #[.int .u8 (d:Int)] W (.bool (nmB (s[k]'hlt)))):=fun W=>implNameByte _ d W hd
  cases hb:nmB (s[k]'hlt)with
  |true=>
   rw[hb]at CN
   have HA2:Hid (∀c∈s.data.toList.take (k+1),nmB c=true):=fun c hc=>by
    rw[List.take_add_one,hg]at hc
    rcases List.mem_append.1 hc with h|h
    ·exact HA.out c h
    rw[Option.toList_some,List.mem_singleton]at h
    rw[h,hb]
   clear hb hg hd HA fin
   go_wp2_with fail
   refine (CN.out _).mono ?_
   rintro e w' ⟨rfl,rfl⟩
   go_wp2_with fail
   go_round
   case rel=>exact ⟨k+1,by omega,by go_num,HA2⟩
   case measure=>simp[intOf]<;>omega
  |false=>
   rw[hb]at CN
   have F:Hid _:=fin (.inr ⟨_,hg,hb⟩)
   clear hb hg hd HA fin
   go_wp2_with fail
   refine (CN.out _).mono ?_
   rintro e w' ⟨rfl,rfl⟩
   go_wp2_with fail
   go_quiet (fail)
   go_wp2_with fail
   go_ret2
   exact ⟨by rw[←F.out.1,←F.out.2];rfl,below_drewN (Below.refl _ _) _⟩
 have hki: ¬(k:Int)<s.size:=by omega
 have F:Hid _:=fin (.inl (by omega))
 clear HA fin
 go_wp2_with fail
 go_quiet (fail)
 go_wp2_with fail
 go_ret2
 exact ⟨by rw[←F.out.1,←F.out.2];rfl,below_drewN (Below.refl _ _) _⟩
theorem implNameOk(n:ByteArray)(w:World):Calls Tryz.prog 115 #[.string n] w fun e w'=>e=.returned (.bool (nameOkB n.data.toList))∧w=w':=by
 have hl:n.data.toList.length=n.size:=by simp
 by_cases h0:n.size=0
 ·have hem:=empty_yes h0
  have HV:Hid (nameOkB n.data.toList=false):=by
   show _=_
   rw[List.eq_nil_of_length_eq_zero (hl.trans h0)]
   rfl
  clear hl
  go_enter Tryz.func115,Tryz.ntmps115
  go_wp2_with fail
  go_ret
  exact ⟨by rw[HV.out];rfl,rfl⟩
 have hem:=empty_no (Nat.pos_of_ne_zero h0)
 have hne:n.data.toList≠[]:=fun e=>h0 (by rw[←hl,e];rfl)
 by_cases h1:n.size≤40
 ·have h1i:(n.size:Int)≤40:=by omega
  have HV:Hid (nameOkB n.data.toList=true):=by
   show _=_
   unfold nameOkB
   rw[decide_eq_true hne,decide_eq_true (by omega:n.data.toList.length≤40)]
   rfl
  clear hl hne h0
  go_enter Tryz.func115,Tryz.ntmps115
  go_wp2_with fail
  go_ret
  exact ⟨by rw[HV.out];rfl,rfl⟩
 have h1i: ¬(n.size:Int)≤40:=by omega
 have HV:Hid (nameOkB n.data.toList=false):=by
  show _=_
  unfold nameOkB
  rw[decide_eq_true hne,decide_eq_false (by omega: ¬n.data.toList.length≤40)]
  rfl
 clear hl hne h0
 go_enter Tryz.func115,Tryz.ntmps115
 go_wp2_with fail
 go_ret
 exact ⟨by rw[HV.out];rfl,rfl⟩
theorem implAfterOk(m:ByteArray)(w:World):Calls Tryz.prog 117 #[.string m] w fun e w'=>e=.returned (.bool (!badM m.data.toList))∧w=w':=by
 have hl:m.data.toList.length=m.size:=by simp
 by_cases h0:m.size=0
 ·have hem:=empty_yes h0
  have HV:Hid ((!badM m.data.toList)=true):=by
   show _=_
   rw[List.eq_nil_of_length_eq_zero (hl.trans h0)]
   rfl
  clear hl
  go_enter Tryz.func117,Tryz.ntmps117
  go_wp2_with fail
  go_ret
  exact ⟨by rw[HV.out];rfl,rfl⟩
 have hem:=empty_no (Nat.pos_of_ne_zero h0)
 have hlt:0<m.size:=by omega
 by_cases h1:m.data.toList=[47]
 ·have HV:Hid ((!badM m.data.toList)=true):=by show _=_;rw[h1];rfl
  have hme:(m.toList==[47])=true:=beq_iff_eq.2 (by rw[ByteArray.toList_eq];exact h1)
  clear hl h0
  go_enter Tryz.func117,Tryz.ntmps117
  go_wp2_with fail
  go_ret
  exact ⟨by rw[HV.out];rfl,rfl⟩
 have hme:(m.toList==[47])=false:=beq_eq_false_iff_ne.2 fun e=>h1 (by rw[←ByteArray.toList_eq];exact e)
 obtain ⟨d,hd⟩: ∃d:Nat,(m[0]'hlt).toNat=d:=⟨_,rfl⟩
 have ix:=run_at Tryz.prog 9 Tryz.underlying9 m 0 0 d hlt rfl hd
 have hd2:d<256:=by rw[←hd];exact (m[0]'hlt).toNat_lt
 have hx:=blk_index d hd2
 rw[byte_of hd]at hx
 have HV:Hid ((!badM m.data.toList)=blkB (m[0]'hlt)):=by
  show _=_
  have h3:m.data.toList[0]? =some (m[0]'hlt):=by
   rw[List.getElem?_eq_getElem (by simp;omega)]
   rfl
  cases hm:m.data.toList with
  |nil=>rw[hm]at h3;cases h3
  |cons c t=>
   rw[hm]at h3 h1
   simp at h3
   subst h3
   show (!(decide (_::t≠[47])&& !blkB _))=_
   rw[decide_eq_true h1]
   simp
 have CI:Hid (∀W,CS 113 #[.string ⟨#[32,9,10,13]⟩,.int .u8 (d:Int)] W (.int .i64 (Lib.indexByte [32,9,10,13] (m[0]'hlt)))):=fun W=>(Tryz.strings_IndexByte ⟨#[32,9,10,13]⟩ (d:Int) W).mono fun e w' h=>⟨by rw[h.1,Int.toNat_natCast,byte_of hd],h.2.symm⟩
 generalize Lib.indexByte [32,9,10,13] (m[0]'hlt)=z at*
 by_cases hz:0≤z
 ·have HY:Hid ((!badM m.data.toList)=true):=by show _=_;rw[HV.out,←hx,decide_eq_true hz]
  clear hl h0 hx hd hd2 h1
  go_enter Tryz.func117,Tryz.ntmps117
  go_wp2_with fail
  refine (CI.out _).mono ?_
  rintro e w' ⟨rfl,rfl⟩
  go_wp2_with fail
  go_ret
  exact ⟨by rw[HY.out];rfl,rfl⟩
 have HY:Hid ((!badM m.data.toList)=false):=by show _=_;rw[HV.out,←hx,decide_eq_false hz]
 clear hl h0 hx hd hd2 h1
 go_enter Tryz.func117,Tryz.ntmps117
 go_wp2_with fail
 refine (CI.out _).mono ?_
 rintro e w' ⟨rfl,rfl⟩
 go_wp2_with fail
 go_ret
 exact ⟨by rw[HY.out];show Ending.returned (.bool (decide (0≤z)))=_;rw[decide_eq_false (by omega)],rfl⟩
def endZ(l:List UInt8):Int:=if scQ 0 l=l.length then-1 else (scQ 0 l:Int)
theorem endZ_none{l:List UInt8}(h:scQ 0 l=l.length):endZ l= -1:=by unfold endZ;rw[if_pos h]
theorem endZ_at{l:List UInt8}{k:Nat}(h:scQ 0 l=k)(hk:k<l.length):endZ l=(k:Int):=by unfold endZ;rw[if_neg (by omega),h]
theorem implMarkEnd(s:ByteArray)(w:World)(hs:s.size≤16777216):Calls Tryz.prog 116 #[.string s] w fun e w'=>e=.returned (.int .i64 (endZ s.data.toList))∧w=w':=by
 have hsl:s.data.toList.length=s.size:=by simp
 have HSL:Hid (s.data.toList.length=s.size):=hsl
 clear hsl
 go_enter Tryz.func116,Tryz.ntmps116
 go_wp2_with fail
 go_loop[3] (fun i=> ∃k:Nat,k≤s.size∧i=.int .i64 (k:Int)∧Hid (scQ 0 s.data.toList=k+scQ 0 (s.data.toList.drop k))) (fun i=>s.size-(intOf i).toNat)
 case atStart=>exact ⟨0,Nat.zero_le _,rfl,by show _=_;simp⟩
 obtain ⟨k,hk,rfl,HA⟩:=hrel
 by_cases hlt:k<s.size
 ·have hki:(k:Int)<s.size:=by omega
  obtain ⟨d,hd⟩: ∃d:Nat,(s[k]'hlt).toNat=d:=⟨_,rfl⟩
  have ix:=run_at Tryz.prog 9 Tryz.underlying9 s (k:Int) k d hlt rfl hd
  have hdr:s.data.toList.drop k=s[k]'hlt::s.data.toList.drop (k+1):=drop_at s k hlt
  have hA:=HA.out
  rw[hdr]at hA
  by_cases h62:d=62
  ·have hc:s[k]'hlt=62:=UInt8.toNat_inj.1 (by rw[hd,h62];rfl)
   rw[hc,scq_end]at hA
   have HF:Hid (endZ s.data.toList=(k:Int)):=endZ_at hA (by rw[HSL.out];exact hlt)
   subst h62
   clear hA hdr hd hc HA
   go_wp2_with fail
   go_ret
   exact ⟨by rw[HF.out];rfl,rfl⟩
  have g62:((d:Int)==62)=false:=beq_eq_false_iff_ne.2 (by omega)
  have hc62:s[k]'hlt≠62:=fun e=>h62 (by rw[←hd,e];rfl)
  by_cases hq:d=34∨d=39
  ·have hcq:s[k]'hlt=34∨s[k]'hlt=39:=by
    rcases hq with h|h
    ·exact .inl (UInt8.toNat_inj.1 (by rw[hd,h];rfl))
    exact .inr (UInt8.toNat_inj.1 (by rw[hd,h];rfl))
   have hc0:s[k]'hlt≠0:=by rcases hcq with h|h<;>rw[h]<;>decide
   obtain ⟨c,hcc⟩: ∃c,s[k]'hlt=c:=⟨_,rfl⟩
   rw[hcc]at hcq hc0 hA hd
   rw[scq_open hcq,scq_quote c hc0]at hA
   have hdd:(s.extract (k+1) s.size).data.toList=s.data.toList.drop (k+1):=drop_data s (k+1)
   have CI:Hid (∀W,CS 113 #[.string (s.extract (k+1) s.size),.int .u8 (d:Int)] W (.int .i64 (if (s.data.toList.drop (k+1)).contains c then ((upB c (s.data.toList.drop (k+1))).length:Int)else-1))):=fun W=>(Tryz.strings_IndexByte (s.extract (k+1) s.size) (d:Int) W).mono fun e w' h=>⟨by rw[h.1,Int.toNat_natCast,byte_of hd,hdd,←Lib.index_one,index_while],h.2.symm⟩
   cases hcon:(s.data.toList.drop (k+1)).contains c with
   |false=>
    rw[hcon]at CI hA
    have HF:Hid (endZ s.data.toList= -1):=endZ_none (by
     rw[hA,if_neg (by decide),List.length_drop,HSL.out]
     omega)
    clear hA hdr hd hcc HA hcon hdd hc62
    rcases hq with h|h
    ·subst h
     go_wp2_with fail
     refine (CI.out _).mono ?_
     rintro e w' ⟨rfl,rfl⟩
     go_wp2_with fail
     go_ret
     exact ⟨by rw[HF.out];rfl,rfl⟩
    subst h
    go_wp2_with fail
    refine (CI.out _).mono ?_
    rintro e w' ⟨rfl,rfl⟩
    go_wp2_with fail
    go_ret
    exact ⟨by rw[HF.out];rfl,rfl⟩
   |true=>
    rw[hcon]at CI hA
    obtain ⟨j,hj⟩: ∃j,(upB c (s.data.toList.drop (k+1))).length=j:=⟨_,rfl⟩
    have hub:=(up_beh c (s.data.toList.drop (k+1))).1 hcon
    have hlen:=congrArg List.length hub
    rw[List.length_append,List.length_cons,List.length_drop,HSL.out,hj]at hlen
    have hbd:behB c (s.data.toList.drop (k+1))=s.data.toList.drop (k+j+2):=by
     have:(s.data.toList.drop (k+1)).drop (j+1)=behB c (s.data.toList.drop (k+1)):=by
      conv=>lhs;arg 2;rw[hub]
      rw[←hj,show (upB c (s.data.toList.drop (k+1))).length+1=(upB c (s.data.toList.drop (k+1))++[c]).length by simp,show upB c (s.data.toList.drop (k+1))++c::behB c (s.data.toList.drop (k+1))=(upB c (s.data.toList.drop (k+1))++[c])++behB c (s.data.toList.drop (k+1)) by simp,List.drop_left' rfl]
     rw[←this,List.drop_drop]
     congr 1
     omega
    rw[if_pos rfl,hj]at CI
    have HA2:Hid (scQ 0 s.data.toList=(k+j+2)+scQ 0 (s.data.toList.drop (k+j+2))):=by
     show _=_
     rw[hA,if_pos rfl,hj,hbd]
     omega
    have hkj:k+j+2≤s.size:=by omega
    have hj0: ¬(j:Int)<0:=by omega
    clear hA hdr hd hcc HA hcon hdd hc62 hub hlen hbd hj
    rcases hq with h|h
    ·subst h
     go_wp2_with fail
     refine (CI.out _).mono ?_
     rintro e w' ⟨rfl,rfl⟩
     go_wp2_with fail
     go_round
     case rel=>exact ⟨k+j+2,hkj,by go_num,HA2⟩
     case measure=>simp[intOf]<;>omega
    subst h
    go_wp2_with fail
    refine (CI.out _).mono ?_
    rintro e w' ⟨rfl,rfl⟩
    go_wp2_with fail
    go_round
    case rel=>exact ⟨k+j+2,hkj,by go_num,HA2⟩
    case measure=>simp[intOf]<;>omega
  have g34:((d:Int)==34)=false:=beq_eq_false_iff_ne.2 (by omega)
  have g39:((d:Int)==39)=false:=beq_eq_false_iff_ne.2 (by omega)
  have HA2:Hid (scQ 0 s.data.toList=(k+1)+scQ 0 (s.data.toList.drop (k+1))):=by
   show _=_
   rw[hA,scq_one hc62 (fun e=>hq (.inl (by rw[←hd,e];rfl))) (fun e=>hq (.inr (by rw[←hd,e];rfl)))]
   omega
  clear hA hdr hd hc62 hq HA
  go_wp2_with fail
  go_round
  case rel=>exact ⟨k+1,by omega,by go_num,HA2⟩
  case measure=>simp[intOf]<;>omega
 have hki: ¬(k:Int)<s.size:=by omega
 have HF:Hid (endZ s.data.toList= -1):=endZ_none (by
  rw[HA.out,List.drop_eq_nil_of_le (by rw[HSL.out];omega),HSL.out]
  show k+0=_
  omega)
 clear HA
 go_wp2_with fail
 go_ret
 exact ⟨by rw[HF.out];rfl,rfl⟩
end Go.Proofs.YtfdgehlobbeomaaGreatDoor
