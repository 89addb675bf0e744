/- UrlSpec1, DotImpl, DropDotsImpl, CutOne. -/
import Derived.Test.YtgcbaphbiaimoaaGreatDoorQU17
import Derived.Lib.IndexBytes
set_option maxHeartbeats 4000000
set_option maxRecDepth 100000
namespace Go.Proofs.YtgcbaphbiaimoaaGreatDoor
open Go.RowKit
def zdsz(c:UInt8):UInt8:=if c=92 then 47 else c
def y8z(l:List UInt8)(k:Nat):List UInt8:=(l.take k).map zdsz++l.drop k
theorem zj6z(l:List UInt8):y8z l 0=l:=by simp[y8z]
theorem zccz(l:List UInt8)(k:Nat):(y8z l k).length=l.length:=by simp[y8z];omega
theorem zhvz(s:ByteArray)(k:Nat)(h:k<s.size)(h':k<(y8z s.data.toList k).length):(y8z s.data.toList k)[k]=s[k]:=by
 have hk:k<s.data.toList.length:=by simpa using h
 have e:(y8z s.data.toList k)[k]? =some s[k]:=by
  unfold y8z
  rw[List.getElem?_append_right (by simp;omega)]
  simp only[List.length_map,List.length_take,Nat.min_eq_left (Nat.le_of_lt hk),Nat.sub_self,List.getElem?_drop,Nat.add_zero]
  rw[List.getElem?_eq_getElem hk]
  rfl
 rw[List.getElem?_eq_getElem h']at e
 exact Option.some.inj e
theorem zemz(s:ByteArray)(k:Nat)(h:k<s.size):(y8z s.data.toList k).set k (zdsz s[k])=y8z s.data.toList (k+1):=by
 have hk:k<s.data.toList.length:=by simpa using h
 unfold y8z
 rw[List.set_append_right _ _ (by simp;omega)]
 rw[y9z s k h,List.drop_eq_getElem_cons hk]
 simp[Nat.min_eq_left (Nat.le_of_lt h)]
theorem zj7z(s:ByteArray)(k:Nat)(h:k<s.size)(hc:zdsz s[k]=s[k]):y8z s.data.toList k=y8z s.data.toList (k+1):=by
 rw[←zemz s k h,hc]
 have h':k<(y8z s.data.toList k).length:=by rw[zccz];simpa using h
 rw[←zhvz s k h h',List.set_getElem_self]
theorem zlxz(s:ByteArray)(k:Nat)(h:s.size≤k):y8z s.data.toList k=yQz s.data.toList:=by
 unfold y8z yQz
 rw[ynz s k h,List.drop_eq_nil_of_le (by simp;omega),List.append_nil]
 rfl
theorem vpz(l:List UInt8):(yQz l).length=l.length:=by simp[yQz]
theorem zpXz(s:ByteArray)(w:World)(hs:s.size≤4194304):
  Calls Tryz.prog 117 #[.string s] w fun e w'=>e=.returned (.string (zLz (plB 1 ⟨(yQz s.data.toList).toArray⟩)))∧Below w.heap.size w w':=by
 obtain ⟨cap,hcap⟩: ∃cap,grownCap w s.size 0 5=cap:=⟨_,rfl⟩
 have hconv:=run_bytes_of_string w 9 22 5 s Tryz.underlying9 Tryz.underlying22 Tryz.underlying5
 rw[hcap]at hconv
 have hmade:=zcHz w s cap 5
 generalize hC:bytesRow s cap=C at hconv hmade
 clear hC hcap
 have hbs:(⟨(yQz s.data.toList).toArray⟩:ByteArray).size≤4194304:=by
  show (yQz s.data.toList).toArray.size≤_
  rw[List.size_toArray,vpz]
  simpa using hs
 have CP:Hid (∀W,CB 41 #[.string ⟨(yQz s.data.toList).toArray⟩,.int .i64 1] W (.string (plB 1 ⟨(yQz s.data.toList).toArray⟩))):=fun W=>j5z ⟨(yQz s.data.toList).toArray⟩ 1 W (by omega)
 have hps:(plB 1 ⟨(yQz s.data.toList).toArray⟩).size≤16777216:=by
  show (plL 1 (yQz s.data.toList)).toArray.size≤_
  rw[List.size_toArray]
  have h1:=zkWz 1 (yQz s.data.toList)
  rw[vpz]at h1
  have h2:s.data.toList.length=s.size:=by simp
  omega
 have CD:Hid (∀W,CB 42 #[.string (plB 1 ⟨(yQz s.data.toList).toArray⟩)] W (.string (zLz (plB 1 ⟨(yQz s.data.toList).toArray⟩)))):=fun W=>zcbz _ W hps
 generalize plB 1 ⟨(yQz s.data.toList).toArray⟩=T at CP CD hps
 go_enter Tryz.func117,Tryz.ntmps117
 go_wp2_with fail
 go_loopw[4] (fun i wr=> ∃k:Nat,k≤s.size∧i=.int .i64 k∧vHz wr w.heap.size (y8z s.data.toList k)∧Below w.heap.size w wr)
  (fun i _=>s.size-(intOf i).toNat)
 case atStart=>exact ⟨0,Nat.zero_le _,rfl,by rw[zj6z];exact hmade,((Below.refl _ _).alloc (Nat.le_refl _) _).drew⟩
 obtain ⟨k,hk,rfl,hat,hbel⟩:=hrel
 clear hmade hconv
 by_cases hlt:k<s.size
 ·have hl:k<(y8z s.data.toList k).length:=by rw[zccz];simpa using hlt
  obtain ⟨hc,hf⟩:=hat k hl
  rw[zhvz s k hlt hl]at hc
  obtain ⟨d,hd⟩: ∃d:Nat,s[k].toNat=d:=⟨_,rfl⟩
  rw[hd]at hc
  by_cases h92:d=92
  ·have HB:Hid (zdsz s[k]=47):=by
    show _=_
    unfold zdsz
    rw[if_pos (UInt8.toNat_inj.1 (show s[k].toNat=(92:UInt8).toNat from hd.trans h92))]
   have HS:=zemz s k hlt
   have HSS:Hid ((y8z s.data.toList k).set k (zdsz s[k])=y8z s.data.toList (k+1)):=HS
   subst h92
   clear HS hd
   go_wp2
   go_roundw
   case rel=>
    refine ⟨k+1,by omega,by go_num,?_,hbel.setCell (Nat.le_refl _) _⟩
    rw[←HSS.out]
    exact hat.set k hl (zdsz s[k]) (by rw[HB.out];rfl)
   case measure=>simp[intOf];omega
  have q92:((d:Int)==92)=false:=beq_eq_false_iff_ne.2 (by omega)
  have HB:Hid (zdsz s[k]=s[k]):=by
   show _=_
   unfold zdsz
   rw[if_neg]
   intro e
   exact h92 (by rw[←hd,e];rfl)
  have HK:Hid (y8z s.data.toList k=y8z s.data.toList (k+1)):=zj7z s k hlt HB.out
  clear hd h92
  go_wp2
  go_roundw
  case rel=>exact ⟨k+1,by omega,by go_num,by rw[←HK.out];exact hat,hbel⟩
  case measure=>simp[intOf];omega
 rw[zlxz s k (by omega)]at hat
 have HO:=zbYz (P:=Tryz.prog) wr 22 9 5 Tryz.underlying22 Tryz.underlying5 Tryz.underlying9 (n:=s.size) (cap:=cap) (by rw[vpz];simp) hat
 generalize (⟨(yQz s.data.toList).toArray⟩:ByteArray)=Z at HO CP hbs
 go_wp2_with fail
 refine (CP.out _).mono ?_
 rintro e wa ⟨rfl,ba⟩
 have Ba:Below w.heap.size w wa:=hbel.trans (ba.mono hbel.size)
 clear ba hbel
 go_wp2_with fail
 refine (CD.out _).mono ?_
 rintro e wb ⟨rfl,bb⟩
 have Bb:Below w.heap.size w wb:=Ba.trans (bb.mono Ba.size)
 clear bb Ba
 go_wp2
 go_ret
 exact ⟨rfl,Bb⟩
theorem zrIz{l:List UInt8}(h:unL l=[46]):isd l=1:=by unfold isd;rw[if_pos h]
theorem zrJz{l:List UInt8}(h:unL l=[46,46]):isd l=2:=by unfold isd;rw[h];decide
theorem zpYz{l:List UInt8}(h1: ¬unL l=[46])(h2: ¬unL l=[46,46]):isd l=0:=by unfold isd;rw[if_neg h1,if_neg h2]
theorem zizz{u:ByteArray}{l:List UInt8}(h:u.data.toList=l):(u.toList==l)=true:=by rw[ByteArray.toList_eq,h];exact beq_self_eq_true _
theorem ziAz{u:ByteArray}{l:List UInt8}(h: ¬u.data.toList=l):(u.toList==l)=false:=by
 rw[ByteArray.toList_eq]
 exact beq_eq_false_iff_ne.2 h
theorem zj8z(b:UInt8)(ls:List ByteArray):Lib.join (ls.map (·.data.toList)) [b]=jn b ls:=by
 cases ls with
 |nil=>rfl
 |cons x xs=>
  unfold jn
  induction xs generalizing x with
  |nil=>simp[Lib.join,List.intercalate]
  |cons y ys ih=>
   have h:=ih y
   simp only[Lib.join,List.intercalate,List.map_cons]at h⊢
   rw[List.intersperse_cons_cons,List.flatten_cons,List.flatten_cons,h,List.flatMap_cons]
   simp
theorem zfRz(s:ByteArray)(w:World)(hs:s.size≤16777216):
  Calls Tryz.prog 136 #[.string s] w fun e w'=>e=.returned (.int .i64 (isd s.data.toList:Int))∧Below w.heap.size w w':=by
 go_enter Tryz.func136,Tryz.ntmps136
 go_wp2_with fail
 refine (zb9z s _ (by omega)).mono ?_
 rintro e wa ⟨rfl,ba⟩
 obtain ⟨u,hu⟩: ∃u:ByteArray,u=⟨(unL s.data.toList).toArray⟩:=⟨_,rfl⟩
 have hd:u.data.toList=unL s.data.toList:=by rw[hu]
 rw[←hu]
 clear hu
 have HD:Hid (u.data.toList=unL s.data.toList):=hd
 by_cases h1:unL s.data.toList=[46]
 ·have h:=zizz (hd.trans h1)
  have HI:Hid (isd s.data.toList=1):=zrIz h1
  clear hd h1
  go_wp2
  go_ret
  exact ⟨zqz (by rw[HI.out];rfl),ba⟩
 have hx1:=ziAz (u:=u) (l:=[46]) (by rw[hd];exact h1)
 by_cases h2:unL s.data.toList=[46,46]
 ·have h:=zizz (hd.trans h2)
  have HI:Hid (isd s.data.toList=2):=zrJz h2
  clear hd h1 h2
  go_wp2
  go_ret
  exact ⟨zqz (by rw[HI.out];rfl),ba⟩
 have hx2:=ziAz (u:=u) (l:=[46,46]) (by rw[hd];exact h2)
 have HI:Hid (isd s.data.toList=0):=zpYz h1 h2
 clear hd h1 h2
 go_wp2
 go_ret
 exact ⟨zqz (by rw[HI.out];rfl),ba⟩
theorem zj9z(n0 B g:Nat)(out:List ByteArray)(x:ByteArray)(w:World)(hx:x.size≤16777216)(hlen:out.length≤16777217)(hgB:g≠B)(hB:n0≤B)(h:vxz 86 9 n0 B g out w):
  Calls Tryz.prog 183 #[.string x,.pointer (some ⟨B,0,none⟩)] w fun e w'=>e=.returned (.tuple #[])∧vxz 86 9 n0 B g (yXz out x) w'∧w'.heap[g]? =w.heap[g]? ∧Below n0 w w':=by
 have hBs:B<w.heap.size:=by obtain ⟨v,h1,_⟩:=h;exact h1.lt
 go_enter Tryz.func183,Tryz.ntmps183
 go_wp2_with fail
 refine (zfRz x _ hx).mono ?_
 rintro e wa ⟨rfl,ba⟩
 have za:=ba.size
 have ha:=zbyz h ba
 have hg0:wa.heap[g]? =w.heap[g]? :=by obtain ⟨v,_,_,_,h4⟩:=h;exact ba.block g h4
 have hbel:Below n0 w wa:=ba.mono (by omega)
 clear h ba
 have hn:=zlnz x.data.toList
 obtain ⟨v,h1,h2,h3,h4⟩:=ha
 have hc:=h1.cell
 have hf:=h1.frozen
 have HG:Hid (wa.heap[g]? =w.heap[g]?):=hg0
 clear hg0
 by_cases d0:isd x.data.toList=0
 ·have HS:Hid (yXz out x=out++[x]):=zbTz d0
  have e0:((isd x.data.toList:Int)==0)=true:=by rw[d0];rfl
  clear d0 hn
  go_wp2_with (at_builtin;refine yKz _ rfl _ _ 86 rfl n0 9 (.string ⟨#[]⟩) 16 Tryz.underlying86 Tryz.infoStr rfl _ _ _ rfl h2 #[.string x] 1 rfl rfl (vJz _) (by omega) (by unfold maxLen;omega) (by omega) ?_)
  intro v' w1 o hgr hat
  obtain ⟨k1,k2,k3,k4⟩:=znRz (by decide) hgB hB (by omega) h1 h2 h3 h4 o hgr hat
  obtain ⟨b',cp',rfl⟩:=ownsRow_succ o
  have hf1:=k1.frozen
  have hc1:=k1.cell
  clear h1 h2 h3 h4 hc hf o hgr hat
  go_wp2
  go_end0
  exact ⟨rfl,by rw[HS.out];exact k2,k3.trans HG.out,hbel.trans k4⟩
 have e0:((isd x.data.toList:Int)==0)=false:=by rw[beq_eq_false_iff_ne];omega
 by_cases d2:isd x.data.toList=2
 ·have HS:Hid (yXz out x=out.take (out.length-1)):=zjUz d2
  have e2:((isd x.data.toList:Int)==2)=true:=by rw[d2];rfl
  clear d0 d2 hn
  rcases zrz h2 with ⟨hl,hnil,ao,cap,rfl⟩|⟨hl,b,cap,rfl⟩
  ·go_wp2
   go_end0
   refine ⟨rfl,?_,HG.out,hbel⟩
   rw[HS.out,hl,List.take_of_length_le (by omega)]
   exact ⟨_,h1,h2,h3,h4⟩
  obtain ⟨k2,k3,k4⟩:=znSz (by decide) (out.length-1) (by omega) hgB hB h1 h2 h3 h4
  have hcap:=jlz h2
  clear h1 h2 h3 h4
  go_wp2
  go_end0
  exact ⟨rfl,by rw[HS.out];exact k2,k3.trans HG.out,hbel.trans k4⟩
 have HS:Hid (yXz out x=out):=zjTz (by show isd x.data.toList=1;omega)
 have e2:((isd x.data.toList:Int)==2)=false:=by rw[beq_eq_false_iff_ne];omega
 clear d0 d2 hn
 go_wp2
 go_end0
 exact ⟨rfl,by rw[HS.out];exact ⟨v,h1,h2,h3,h4⟩,HG.out,hbel⟩
theorem zdtz(n0 B g:Nat)(out:List ByteArray)(w:World)(hne:out≠[])(hlen:(out.length:Int)≤16777217)(hsz:((slL out).length:Int)≤16777217)(h:vxz 86 9 n0 B g out w):
  Calls Tryz.prog 184 #[.pointer (some ⟨B,0,none⟩)] w fun e w'=>e=.returned (.string ⟨(slL out).toArray⟩)∧Below w.heap.size w w':=by
 obtain ⟨v,h1,h2,h3,h4⟩:=h
 have hc:=h1.cell
 have hs:=sl_jn out hne
 have hjl:(slL out).length=(jn 47 out).length+1:=by rw[hs];rfl
 have HS:Hid (slL out=47::jn 47 out):=hs
 clear hs
 rcases zrz h2 with ⟨hl,_⟩|⟨hl,b,cap,rfl⟩
 ·exact absurd (List.eq_nil_of_length_eq_zero hl) hne
 have CJ:=Tryz.strings_Join b 0 cap out ⟨#[47]⟩ w (fun j x hj=>by
    have hjl:j<out.length:=(List.getElem?_eq_some_iff.1 hj).1
    rw[Nat.zero_add,z2z h2 j hjl,List.getD_eq_getElem?_getD,hj]
    rfl) (h2.lt b rfl).2 (by omega) (jlz h2) (by
    rw[show (⟨#[47]⟩:ByteArray).data.toList=[47] from rfl,zj8z];omega)
 rw[show (⟨#[47]⟩:ByteArray).data.toList=[47] from rfl,zj8z]at CJ
 have CJ:Hid (CB 185 #[.slice (some ⟨b,0,none⟩) out.length cap,.string ⟨#[47]⟩] w (.string ⟨(jn 47 out).toArray⟩)):=CJ
 have hT:(⟨(jn 47 out).toArray⟩:ByteArray).size=(jn 47 out).length:=List.size_toArray
 have HF:Hid ((⟨#[47]⟩:ByteArray)++(⟨(jn 47 out).toArray⟩:ByteArray)=⟨(slL out).toArray⟩):=by show _=_;rw[zkVz,←HS.out]
 clear h1 h2 h3 h4
 generalize (⟨(jn 47 out).toArray⟩:ByteArray)=T at CJ hT HF
 have hTs:T.size≤16777217:=by omega
 clear hT hjl
 go_enter Tryz.func184,Tryz.ntmps184
 go_wp2_with fail
 refine CJ.out.mono ?_
 rintro e wa ⟨rfl,ba⟩
 go_wp2
 go_ret
 exact ⟨ypz HF.out,ba⟩
theorem zcdz(p:ByteArray):Lib.hasPrefix p.data.toList (⟨#[47]⟩:ByteArray).data.toList=zSz p:=by
 unfold Lib.hasPrefix zSz
 show List.isPrefixOf [47] p.data.toList=_
 cases p.data.toList with
 |nil=>rfl
 |cons a r=>
  simp only[List.isPrefixOf,List.head?_cons,Bool.and_true]
  rw[Bool.eq_iff_iff]
  simp only[beq_iff_eq,Option.some.injEq]
  exact eq_comm
theorem zrKz{tb te:TypeId}{w:World}: ∃v,Boxed (((w.alloc (.cells #[] te)).alloc (.cells #[.slice (some ⟨w.heap.size,0,none⟩) 0 0] tb))) (w.heap.size+1) tb v∧(((w.alloc (.cells #[] te)).alloc (.cells #[.slice (some ⟨w.heap.size,0,none⟩) 0 0] tb))).ownsRow w.heap.size te 1 v 0 []:=by
 refine ⟨.slice (some ⟨w.heap.size,0,none⟩) 0 0,?_,?_⟩
 ·have h:=Boxed.new (w.alloc (.cells #[] te)) tb (.slice (some ⟨w.heap.size,0,none⟩) 0 0)
  rwa[World.size_alloc]at h
 exact (World.ownsRow_lit w #[] 0 (Nat.le_refl _) (by decide) rfl).alloc _
theorem zkaz(w:World):
  Calls Tryz.prog 134 #[] w fun e w'=>e=.returned (.tuple #[.func (.func 183) #[] #[.pointer (some ⟨w.heap.size+1,0,none⟩)],.func (.func 184) #[] #[.pointer (some ⟨w.heap.size+1,0,none⟩)]])∧
   (∃v,Boxed w' (w.heap.size+1) 86 v∧w'.ownsRow w.heap.size 9 1 v 0 [])∧w'.heap.size=w.heap.size+2∧Below w.heap.size w w':=by
 have hmf: ∀(fn:Fn) (first cap:Array Value) (w:World),(Instr.makeFunc fn first cap).run Tryz.prog w=.ok (.func fn first cap) w:=fun _ _ _ _=>rfl
 go_enter Tryz.func134,Tryz.ntmps134
 go_wp2
 go_ret2
 refine ⟨rfl,zrKz,by simp,((Below.refl _ w).alloc (Nat.le_refl _) _).alloc (by simp) _⟩
theorem znTz{l:List ByteArray}(h:isd (toL (zbaz l))=0):yHz l=ylz l:=by unfold ylz;rw[if_pos h]
theorem zpZz{l:List ByteArray}(h:isd (toL (zbaz l))≠0):yXz (yHz l) ⟨#[]⟩=ylz l:=by
 unfold ylz
 rw[if_neg h,zbTz (show isd (toL (⟨#[]⟩:ByteArray))=0 from zeQz)]
 rfl
theorem zcez(p:ByteArray)(w:World)(hs:p.size≤16777216):
  Calls Tryz.prog 85 #[.string p] w fun e w'=>e=.returned (.string (zLz p))∧Below w.heap.size w w':=by
 have CP:Hid (∀W,CS 83 #[.string p,.string ⟨#[47]⟩] W (.bool (zSz p))):=fun W=>
  (Tryz.strings_HasPrefix p ⟨#[47]⟩ W).mono fun e w' h=>⟨by rw[h.1,zcdz],h.2.symm⟩
 cases hr:zSz p with
 |false=>
  have HD:Hid (p=zLz p):=(zfQz hr).symm
  rw[hr]at CP
  clear hr
  go_enter Tryz.func85,Tryz.ntmps85
  go_wp2_with fail
  refine (CP.out _).mono ?_
  rintro e w' ⟨rfl,rfl⟩
  go_wp2_with fail
  refine (zbfz _ _ (by omega)).mono ?_
  rintro e wa ⟨rfl,ba⟩
  go_wp2
  go_ret
  exact ⟨ypz HD.out,ba⟩
 |true=>
  rw[hr]at CP
  have HD:Hid ((⟨(slL (ylz (zCz p))).toArray⟩:ByteArray)=zLz p):=zhuz hr
  have hfp:=zdhz hr
  have hlp:=zdZz hr
  have hll:(zCz p).length≤16777217:=by
   have h1:=(ywz p 47 p.size).2
   have h2:(zaz p 47).length=(zCz p).length+1:=by rw[hfp];rfl
   unfold zaz at h2
   rw[List.length_append,List.length_singleton]at h2
   omega
  have hxs: ∀j,j<(zCz p).length→((zCz p).getD j ByteArray.empty).size≤16777216:=fun j hj=>by
   have hm:(zCz p).getD j ByteArray.empty∈zaz p 47:=by
    rw[hfp,List.getD_eq_getElem?_getD,List.getElem?_eq_getElem hj]
    exact List.mem_cons_of_mem _ (List.getElem_mem hj)
   have h1:=vKz _ _ _ hm
   omega
  have hkz:((slL (ylz (zCz p))).length:Int)≤16777217:=by
   have h1:=zd0z (zCz p)
   rw[zdiz hr]at h1
   have h2:p.data.toList.length=p.size:=by simp
   omega
  have CF:Hid (∀W,Calls Tryz.prog 135 #[.string p,.int .u8 47] W fun e w'=> ∃v,e=.returned v∧w'.ownsRow W.heap.size 9 1 v ((zCz p).length+1) (zsz (ByteArray.empty::zCz p))∧Below W.heap.size W w'):=fun W=>by
   have h1:=zedz p 47 W hs
   rw[hfp]at h1
   exact h1
  clear hfp hr
  generalize zCz p=l at HD hlp hll hxs hkz CF
  have HX:Hid (∀j,j<l.length→(l.getD j ByteArray.empty).size≤16777216):=hxs
  have HKZ:Hid (((slL (ylz l)).length:Int)≤16777217):=hkz
  clear hxs hkz
  go_enter Tryz.func85,Tryz.ntmps85
  go_wp2_with fail
  refine (CP.out _).mono ?_
  rintro e w' ⟨rfl,rfl⟩
  go_wp2_with fail
  refine (zkaz _).mono ?_
  rintro e wa ⟨rfl,⟨v0,hb0,ho0⟩,za,ba⟩
  go_wp2_with fail
  refine (CF.out _).mono ?_
  rintro e wb ⟨vb,rfl,ob,bb⟩
  have zb:=bb.size
  rcases zrz ob with ⟨h,_⟩|⟨_,g,cp,rfl⟩
  ·omega
  have hglt:=ob.lt g rfl
  have hcap:=jlz ob
  have HC:Hid (∀j,j<l.length→wb.cell? ⟨g,j+1,none⟩=some (.string (l.getD j ByteArray.empty))):=fun j hj=>by
   have h1:=z2z ob (j+1) (by omega)
   rw[h1]
   rfl
  have hgB:g≠w.heap.size+1:=by omega
  have K0:vxz 86 9 w.heap.size (w.heap.size+1) g [] wb:=by
   refine ⟨v0,zhsz hb0 bb,?_,?_,hglt.2⟩
   ·exact ho0.kept (zfOz bb) (by cases hv:v0.ownBlock<;>simp)
   intro e
   have:=(ho0.lt g e.symm).2
   omega
  have B0:Below w.heap.size w wb:=ba.trans (bb.mono (by omega))
  clear ob hb0 ho0 ba bb
  have hl0:0<(l.length:Int):=by omega
  have HG:Hid (wa.heap.size≤g∧g<wb.heap.size):=hglt
  have HK0:Hid (vxz 86 9 w.heap.size (w.heap.size+1) g [] wb):=K0
  have HB0:Hid (Below w.heap.size w wb):=B0
  have HGB:Hid (g≠w.heap.size+1):=hgB
  clear hglt K0 B0 hgB
  go_wp2_with fail
  go_loopw[22] (fun i wr=> ∃k:Nat,k≤l.length∧i=.int .i64 k∧vxz 86 9 w.heap.size (w.heap.size+1) g (yHz (l.take k)) wr∧wr.heap[g]? =wb.heap[g]? ∧Below w.heap.size w wr)
   (fun i _=>l.length-(intOf i).toNat)
  case atStart=>exact ⟨0,Nat.zero_le _,rfl,HK0.out,rfl,HB0.out⟩
  obtain ⟨k,hk,rfl,hkeep,hgs,hbel⟩:=hrel
  have HKP:Hid (vxz 86 9 w.heap.size (w.heap.size+1) g (yHz (l.take k)) wr):=hkeep
  have HGS:Hid (wr.heap[g]? =wb.heap[g]?):=hgs
  have HBL:Hid (Below w.heap.size w wr):=hbel
  have hfl:(yHz (l.take k)).length≤16777217:=by
   have h1:=zekz (l.take k)
   rw[List.length_take]at h1
   omega
  clear hkeep hgs hbel
  by_cases hlt:k<l.length
  ·have hc:wr.cell? ⟨g,1+k,none⟩=some (.string (l.getD k ByteArray.empty)):=by
    rw[zd6z HGS.out,Nat.add_comm 1 k]
    exact HC.out k hlt
   have hx:=HX.out k hlt
   have HF:Hid (yHz (l.take (k+1))=yXz (yHz (l.take k)) (l.getD k ByteArray.empty)):=zd1z l k hlt
   generalize l.getD k ByteArray.empty=x at hc hx HF
   have hxi:(x.size:Int)≤16777216:=by omega
   go_wp2_with fail
   refine (zj9z w.heap.size (w.heap.size+1) g (yHz (l.take k)) x wr hx hfl HGB.out (by omega) HKP.out).mono ?_
   rintro e wc ⟨rfl,kc,gc,bc⟩
   have KC:Hid (vxz 86 9 w.heap.size (w.heap.size+1) g (yHz (l.take (k+1))) wc):=by show vxz _ _ _ _ _ _ _;rw[HF.out];exact kc
   have GC:Hid (wc.heap[g]? =wb.heap[g]?):=gc.trans HGS.out
   have BC:Hid (Below w.heap.size w wc):=HBL.out.trans bc
   clear kc gc bc
   go_wp2_with fail
   go_roundw
   case rel=>exact ⟨k+1,by omega,by go_num,KC.out,GC.out,BC.out⟩
   case measure=>simp[intOf];omega
  have hke:k=l.length:=by omega
  rw[hke,List.take_length]at HKP
  rw[hke,List.take_length]at hfl
  have hc:wr.cell? ⟨g,1+(l.length-1),none⟩=some (.string (zbaz l)):=by
   rw[zd6z HGS.out,Nat.add_comm 1 _]
   exact HC.out (l.length-1) (by omega)
  have hx:(zbaz l).size≤16777216:=HX.out (l.length-1) (by omega)
  have HZ:Hid (∀h:isd (toL (zbaz l))=0,yHz l=ylz l):=znTz
  have HT:Hid (∀h:isd (toL (zbaz l))≠0,yXz (yHz l) ⟨#[]⟩=ylz l):=zpZz
  have HKN:Hid (ylz l≠[]):=zisz hlp
  have HKL:Hid (((ylz l).length:Int)≤16777217):=by
   show _≤_
   have:=zbvz l
   omega
  generalize zbaz l=x at hc hx HZ HT
  have CI:Hid (∀W,CB 136 #[.string x] W (.int .i64 (isd x.data.toList:Int))):=fun W=>zfRz x W hx
  have hd:=zlnz x.data.toList
  clear hke
  by_cases d0:isd x.data.toList=0
  ·have HN:Hid (yHz l=ylz l):=HZ.out d0
   have hdi: ¬0<(isd x.data.toList:Int):=by omega
   clear d0 HZ HT hd
   go_wp2_with fail
   refine (CI.out _).mono ?_
   rintro e wc ⟨rfl,bc⟩
   have zc:=bc.size
   have KC:Hid (vxz 86 9 w.heap.size (w.heap.size+1) g (ylz l) wc):=by show vxz _ _ _ _ _ _ _;rw[←HN.out];exact zbyz HKP.out bc
   have BC:Hid (Below w.heap.size w wc):=HBL.out.trans (bc.mono HBL.out.size)
   clear bc
   go_wp2_with fail
   refine (zdtz w.heap.size (w.heap.size+1) g (ylz l) wc HKN.out HKL.out HKZ.out KC.out).mono ?_
   rintro e wd ⟨rfl,bd⟩
   have BD:Hid (Below w.heap.size w wd):=BC.out.trans (bd.mono BC.out.size)
   clear bd
   go_wp2
   go_ret
   exact ⟨ypz HD.out,BD.out⟩
  have HN:Hid (yXz (yHz l) ⟨#[]⟩=ylz l):=HT.out d0
  have hdi:0<(isd x.data.toList:Int):=by omega
  clear d0 HZ HT hd
  go_wp2_with fail
  refine (CI.out _).mono ?_
  rintro e wc ⟨rfl,bc⟩
  have zc:=bc.size
  have KC:Hid (vxz 86 9 w.heap.size (w.heap.size+1) g (yHz l) wc):=zbyz HKP.out bc
  have BC:Hid (Below w.heap.size w wc):=HBL.out.trans (bc.mono HBL.out.size)
  clear bc
  go_wp2_with fail
  refine (zj9z w.heap.size (w.heap.size+1) g (yHz l) ⟨#[]⟩ wc (by decide) hfl HGB.out (by omega) KC.out).mono ?_
  rintro e wd ⟨rfl,kd,gd,bd⟩
  have KD:Hid (vxz 86 9 w.heap.size (w.heap.size+1) g (ylz l) wd):=by show vxz _ _ _ _ _ _ _;rw[←HN.out];exact kd
  have BD:Hid (Below w.heap.size w wd):=BC.out.trans bd
  clear kd gd bd
  go_wp2_with fail
  refine (zdtz w.heap.size (w.heap.size+1) g (ylz l) wd HKN.out HKL.out HKZ.out KD.out).mono ?_
  rintro e we ⟨rfl,be⟩
  have BE:Hid (Below w.heap.size w we):=BD.out.trans (be.mono BD.out.size)
  clear be
  go_wp2
  go_ret
  exact ⟨ypz HD.out,BE.out⟩
theorem ziBz(p:ByteArray)(w:World)(hs:p.size≤1048576):
  Calls Tryz.prog 85 #[.string p] w fun e w'=>e=.returned (.string (zLz p))∧Below w.heap.size w w':=
 zcez p w (by omega)
theorem zrLz(c:UInt8)(s:ByteArray)(w:World)(hs:s.size≤16777216):
  Calls Tryz.prog 154 #[.string s,.string ⟨#[c]⟩] w fun e w'=>e=.returned (.tuple #[.string ⟨(upB c s.data.toList).toArray⟩,.string ⟨(y6z c s.data.toList).toArray⟩,.bool (s.data.toList.contains c)])∧Below w.heap.size w w':=by
 have hi:Lib.indexByte s.data.toList c=if s.data.toList.contains c then ((upB c s.data.toList).length:Int)else-1:=by rw[←Lib.index_one,v6z]
 have CI:Hid (∀W,CS 213 #[.string s,.string ⟨#[c]⟩] W (.int .i64 (Lib.indexByte s.data.toList c))):=fun W=>(Tryz.stringslite_Index_one s c W).mono fun e w' h=>⟨h.1,h.2.symm⟩
 obtain ⟨h1,h2,_⟩:=zd3z c s.data.toList
 have hsl:s.data.toList.length=s.size:=by simp
 cases hc:s.data.toList.contains c with
 |false=>
  obtain ⟨e1,e2⟩:=h2 hc
  rw[hi,hc]at CI
  rw[e1,e2,zcOz]
  clear hi h1 h2 e1 e2 hc hsl
  go_enter Tryz.func154,Tryz.ntmps154
  go_wp2_with fail
  refine (CI.out _).mono ?_
  rintro e w' ⟨rfl,rfl⟩
  go_wp2
  go_ret3
  exact ⟨rfl,Below.refl _ _⟩
 |true=>
  have e:=h1 hc
  rw[hi,hc]at CI
  obtain ⟨k,hk⟩: ∃k,(upB c s.data.toList).length=k:=⟨_,rfl⟩
  have hlt:k+1≤s.size:=by
   have:=congrArg List.length e
   rw[List.length_append,List.length_cons,hk]at this
   omega
  have H1:Hid (s.extract 0 k=⟨(upB c s.data.toList).toArray⟩):=by
   show _=_
   have:s.data.toList.take k=upB c s.data.toList:=by
    conv=>lhs;arg 2;rw[e]
    rw[←hk,List.take_left']
    rfl
   rw[←this,←jvz,zcOz]
  have H2:Hid (s.extract (k+1) s.size=⟨(y6z c s.data.toList).toArray⟩):=by
   show _=_
   have:s.data.toList.drop (k+1)=y6z c s.data.toList:=by
    conv=>lhs;arg 2;rw[e]
    have h3:k+1=(upB c s.data.toList++[c]).length:=by simp[hk]
    rw[h3,show upB c s.data.toList++c::y6z c s.data.toList=(upB c s.data.toList++[c])++y6z c s.data.toList by simp,List.drop_left']
    rfl
   rw[←this,←jwz,zcOz]
  rw[if_pos rfl,hk]at CI
  clear hi h1 h2 e hk hc hsl
  go_enter Tryz.func154,Tryz.ntmps154
  go_wp2_with fail
  refine (CI.out _).mono ?_
  rintro e w' ⟨rfl,rfl⟩
  go_wp2
  go_region
  all_goals (try go_wp2)
  all_goals go_ret3
  all_goals exact ⟨by rw[←H1.out,←H2.out];rfl,(Below.refl _ _).drew⟩
theorem j6z(c:UInt8)(s:ByteArray)(w:World)(hs:s.size≤16777216):
  Calls Tryz.prog 102 #[.string s,.string ⟨#[c]⟩] w fun e w'=>e=.returned (.tuple #[.string ⟨(upB c s.data.toList).toArray⟩,.string ⟨(y6z c s.data.toList).toArray⟩,.bool (s.data.toList.contains c)])∧Below w.heap.size w w':=by
 have CC:Hid (∀W,CB 154 #[.string s,.string ⟨#[c]⟩] W (.tuple #[.string ⟨(upB c s.data.toList).toArray⟩,.string ⟨(y6z c s.data.toList).toArray⟩,.bool (s.data.toList.contains c)])):=fun W=>zrLz c s W hs
 generalize (⟨(upB c s.data.toList).toArray⟩:ByteArray)=A at CC⊢
 generalize (⟨(y6z c s.data.toList).toArray⟩:ByteArray)=B at CC⊢
 generalize s.data.toList.contains c=t at CC⊢
 go_enter Tryz.func102,Tryz.ntmps102
 go_wp2_with fail
 refine (CC.out _).mono ?_
 rintro e w1 ⟨rfl,b1⟩
 go_wp2
 go_ret3
 exact ⟨rfl,b1⟩
end Go.Proofs.YtgcbaphbiaimoaaGreatDoor
