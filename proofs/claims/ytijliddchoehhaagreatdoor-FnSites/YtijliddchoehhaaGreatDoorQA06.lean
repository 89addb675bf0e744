/- LaidBru, LaidHost, LabPlain, AppAt, PartsWalk, RulePlain, RuleRow, BlockAt, PctWalk, RuleTo. -/
import Derived.Test.YtijliddchoehhaaGreatDoorQA05
import Derived.Maps.AppendAt
import Derived.Sort.OwnSorted
import Derived.Deep.QuietTactic
import Derived.Deep.RegionWith
set_option maxHeartbeats 2000000
namespace Go.Proofs.YtijliddchoehhaaGreatDoor
open Go.ChangeShapes Go.WideShapes Go.ChangeAt Go.RowKit Go.Lib
def bruTab:List Int:=[0,1,56,2,57,49,28,3,61,58,42,50,38,29,17,4,62,47,59,36,45,43,51,22,53,39,33,30,24,18,12,5,63,55,48,27,60,41,37,16,46,35,44,21,52,32,23,11,54,26,40,15,34,20,31,10,25,14,19,9,13,8,7,6]
theorem bru_data:(Rows.laid_math_bits_deBruijn64tab:DataW Unit)=Lib.tabData .u8 bruTab:=by kernel_rfl
def laidHost:List (String×DataW Unit):=[("math/bits.deBruijn32tab",Rows.laid_math_bits_deBruijn32tab),("math/bits.deBruijn64tab",Rows.laid_math_bits_deBruijn64tab),("internal/strconv.uint64pow10",Rows.laid_internal_strconv_uint64pow10),("unicode/utf8.acceptRanges",Rows.laid_unicode_utf8_acceptRanges),("unicode/utf8.first",Rows.laid_unicode_utf8_first)]
theorem host_pow{W:World}(hL:laidMet Tryz.prog laidHost W):Pow W:=by
 unfold laidHost at hL
 rw[pow_data]at hL
 obtain ⟨g',t',cs,fuel,p,hg,hty,hvar,hd⟩:=Lib.laidMet.reads hL (.tail _ (.tail _ (.head _)))
 obtain rfl:=Option.some.inj ((show Tryz.prog.globalNamed "internal/strconv.uint64pow10" =some 1 by kernel_rfl).symm.trans hg)
 obtain rfl:=Option.some.inj ((show (Tryz.prog.globals[1]?).map (·.type)=some 165 by kernel_rfl).symm.trans hty)
 show Lib.TabIs _ _ _ _ _
 unfold Lib.TabIs
 rw[hvar,←Lib.cells_of_tab (P:=Tryz.prog) (t:=165) (e:=145) (n:=20) (k:=.u64) (by kernel_rfl) (by kernel_rfl) (by kernel_rfl) (by kernel_rfl) hd]
theorem host_bru{W:World}(hL:laidMet Tryz.prog laidHost W):Bruijn W:=by
 unfold laidHost at hL
 rw[bru_data]at hL
 obtain ⟨g',t',cs,fuel,p,hg,hty,hvar,hd⟩:=Lib.laidMet.reads hL (.tail _ (.head _))
 have hgg:Tryz.prog.globalNamed "math/bits.deBruijn64tab" =some 5:=by kernel_rfl
 obtain rfl:=Option.some.inj (hgg.symm.trans hg)
 obtain rfl:=Option.some.inj ((show (Tryz.prog.globals[5]?).map (·.type)=some 187 by kernel_rfl).symm.trans hty)
 have hT:Lib.TabIs Tryz.prog W "math/bits.deBruijn64tab" .u8 bruTab:=by
  unfold Lib.TabIs
  rw[hvar,←Lib.cells_of_tab (P:=Tryz.prog) (t:=187) (e:=5) (n:=64) (k:=.u8) (by kernel_rfl) (by kernel_rfl) (by kernel_rfl) (by kernel_rfl) hd]
 have h:=hT.cell hgg 15 (by decide)
 exact h
theorem host_tabs{W:World}(hL:laidMet Tryz.prog laidHost W):Lib.Utf8Tabs 2 3 W:=by
 unfold laidHost at hL
 rw[acc_eq,first_eq]at hL
 exact utf8Tabs_of_readsT (U8Types.of196 Tryz.lays196) ⟨by kernel_rfl,by kernel_rfl,by kernel_rfl,by kernel_rfl,by kernel_rfl,by kernel_rfl,by kernel_rfl⟩ (Lib.laidMet.reads hL (.tail _ (.tail _ (.tail _ (.tail _ (.head _)))))) (Lib.laidMet.reads hL (.tail _ (.tail _ (.tail _ (.head _)))))
def hostHeap(h:Array Obj):Array Obj:=laidHeap (powHeap h)
theorem host_met(os:Os)(args:Array Value):laidMet Tryz.prog laidHost (({World.holding Tryz.prog os ⟨#[],#[],[]⟩with heap:=hostHeap (World.holding Tryz.prog os ⟨#[],#[],[]⟩).heap}:World).forCall (fun _ _=>0) ⟨#[],args,[]⟩).memory:=
 (LaidIn.of_run (l:=laidHost) [4,5,1,3,2] 8 (by kernel_rfl) (by kernel_rfl) (by kernel_rfl) (by kernel_rfl)).met
end Go.Proofs.YtijliddchoehhaaGreatDoor
namespace Go.Proofs.YtijliddchoehhaaGreatDoor
open Go.RowKit
def labB(c:UInt8):Bool:=decide (97≤c.toNat∧c.toNat≤122)||decide (48≤c.toNat∧c.toNat≤57)||decide (c.toNat=45)
def labL(l:List UInt8):Bool:=decide (1≤l.length)&&decide (l.length≤63)&&decide (l.head? ≠some 45)&&decide (l.getLast? ≠some 45)&&l.all labB
theorem labL_parts{l:List UInt8}(h:labL l=true):1≤l.length∧l.length≤63∧l.head? ≠some 45∧l.getLast? ≠some 45∧ ∀c∈l,labB c=true:=by
 unfold labL at h
 simp only[Bool.and_eq_true,decide_eq_true_eq,List.all_eq_true]at h
 exact ⟨h.1.1.1.1,h.1.1.1.2,h.1.1.2,h.1.2,h.2⟩
theorem labL_of{l:List UInt8}(h1:1≤l.length)(h2:l.length≤63)(h3:l.head? ≠some 45)(h4:l.getLast? ≠some 45)(h5: ∀c∈l,labB c=true):labL l=true:=by
 unfold labL
 simp only[Bool.and_eq_true,decide_eq_true_eq,List.all_eq_true]
 exact ⟨⟨⟨⟨h1,h2⟩,h3⟩,h4⟩,h5⟩
theorem labB_parts{c:UInt8}(h:labB c=true):(97≤c.toNat∧c.toNat≤122)∨(48≤c.toNat∧c.toNat≤57)∨c.toNat=45:=by
 unfold labB at h
 simp only[Bool.or_eq_true,decide_eq_true_eq]at h
 omega
theorem labB_yes{c:UInt8}{d:Nat}(hd:c.toNat=d)(h:(97≤d∧d≤122)∨(48≤d∧d≤57)∨d=45):labB c=true:=by
 unfold labB
 simp only[Bool.or_eq_true,decide_eq_true_eq]
 omega
theorem head_at(s:ByteArray)(h:0<s.size):s.data.toList.head? =some s[0]:=by
 have hk:0<s.data.toList.length:=by simpa using h
 rw[List.head?_eq_getElem?,List.getElem?_eq_getElem hk]
 rfl
theorem last_at(s:ByteArray)(h:0<s.size):s.data.toList.getLast? =some (s[s.size-1]'(by omega)):=by
 have hk:0<s.data.toList.length:=by simpa using h
 rw[List.getLast?_eq_getElem?,List.getElem?_eq_getElem (by omega)]
 rfl
theorem lab_size(s:ByteArray)(h: ¬(1≤s.size∧s.size≤63)):labL s.data.toList=false:=by
 refine Bool.eq_false_iff.2 fun hl=>h ?_
 obtain ⟨h1,h2,_⟩:=labL_parts hl
 have e:s.data.toList.length=s.size:=by simp
 omega
theorem lab_head(s:ByteArray)(h:0<s.size)(h0:s[0].toNat=45):labL s.data.toList=false:=by
 refine Bool.eq_false_iff.2 fun hl=> ?_
 obtain ⟨_,_,h3,_⟩:=labL_parts hl
 exact h3 ((head_at s h).trans (congrArg some (UInt8.toNat_inj.1 (by simpa using h0))))
theorem lab_last(s:ByteArray)(h:0<s.size)(h0:(s[s.size-1]'(by omega)).toNat=45):labL s.data.toList=false:=by
 refine Bool.eq_false_iff.2 fun hl=> ?_
 obtain ⟨_,_,_,h3,_⟩:=labL_parts hl
 exact h3 ((last_at s h).trans (congrArg some (UInt8.toNat_inj.1 (by simpa using h0))))
theorem lab_byte(s:ByteArray)(k:Nat)(h:k<s.size)(h0: ¬((97≤s[k].toNat∧s[k].toNat≤122)∨(48≤s[k].toNat∧s[k].toNat≤57)∨s[k].toNat=45)):labL s.data.toList=false:=by
 refine Bool.eq_false_iff.2 fun hl=> ?_
 obtain ⟨_,_,_,_,h3⟩:=labL_parts hl
 have hm:s[k]∈s.data.toList:=by
  have:s[k]∈s.data:=Array.getElem_mem _
  simpa using this
 exact h0 (labB_parts (h3 _ hm))
theorem lab_yes(s:ByteArray)(hr:1≤s.size∧s.size≤63)(h0: ¬(s[0]'(by omega)).toNat=45)(h1: ¬(s[s.size-1]'(by omega)).toNat=45)(h: ∀c∈s.data.toList.take s.size,labB c=true):labL s.data.toList=true:=by
 have e:s.data.toList.length=s.size:=by simp
 rw[take_all s s.size (Nat.le_refl _)]at h
 refine labL_of (by omega) (by omega) (fun hh=>h0 ?_) (fun hh=>h1 ?_) h
 ·rw[head_at s (by omega)]at hh
  have:=Option.some.inj hh
  rw[this];rfl
 rw[last_at s (by omega)]at hh
 have:=Option.some.inj hh
 rw[this];rfl
theorem lab_take(s:ByteArray)(k:Nat)(h:k<s.size)(d:Nat)(hd:s[k].toNat=d)(hc:(97≤d∧d≤122)∨(48≤d∧d≤57)∨d=45)(h0: ∀c∈s.data.toList.take k,labB c=true): ∀c∈s.data.toList.take (k+1),labB c=true:=by
 intro c hm
 rw[take_snoc s k h]at hm
 rcases List.mem_append.1 hm with h2|h2
 ·exact h0 c h2
 rw[List.mem_singleton.1 h2]
 exact labB_yes hd hc
theorem labIn_yes(x a b:Int)(w:World)(h1:a≤x)(h2:x≤b):
  Calls Tryz.prog 59 #[.int .i64 x,.int .i64 a,.int .i64 b] w fun e w'=>e=.returned (.bool true)∧w=w':=by
 go_enter Tryz.func59,Tryz.ntmps59
 go_wp2
 go_ret
 exact ⟨rfl,rfl⟩
theorem labIn_no(x a b:Int)(w:World)(h:x<a∨b<x):
  Calls Tryz.prog 59 #[.int .i64 x,.int .i64 a,.int .i64 b] w fun e w'=>e=.returned (.bool false)∧w=w':=by
 by_cases h1:a≤x
 ·have h2: ¬x≤b:=by omega
  clear h
  go_enter Tryz.func59,Tryz.ntmps59
  go_wp2
  go_ret
  exact ⟨ret_bool (by simp),rfl⟩
 have h2:x<a:=by omega
 clear h h1
 go_enter Tryz.func59,Tryz.ntmps59
 go_wp2
 go_ret
 exact ⟨rfl,rfl⟩
theorem wpList_append_newAt{P:Program}(wr:World){ops:Array Oper}{rest:List Oper}{o:Oper}{a:Act}{Q:Exit→Act→World→Prop}
  (hg:o.guard=none) (s x:Operand) (t:TypeId) (hop:o.op=.call {callee:=.builtin .append,args:= #[s,x],argTypes:= #[t,t]})
  (B:Nat) (e:TypeId) (z:Value) (bytes:Nat) (ht:P.underlying t=some (.slice e)) (hinfo:(P.info? e).map (fun i=>(i.zero,i.size,i.bytes))=some (some z,1,bytes)) (hz:z.cells.size=1)
  (v:Value) (n:Nat) (xs:List Value) (hs:a.eval s=v) (hown:wr.ownsRow B e 1 v n xs)
  (cs:Array Value) (m:Nat) (hm:cs.size=m) (hx:a.eval x=.slice (some ⟨wr.heap.size,0,none⟩) m m) (h1: ∀u∈cs.toList,u.oneCell'=true)
  (hroom:(n+m)*bytes≤140737488355328) (hroom':n+m≤maxLen) (hB:B≤wr.heap.size)
  (hK: ∀v' w1,w1.ownsRow B e 1 v' (n+m) (xs++cs.toList)→wr.grownBy w1 v.ownBlock→(v'.ownBlock=v.ownBlock∨v'.ownBlock=some (wr.heap.size+1))→wpList P ops Q rest (a.put o.dst v') w1):
  wpList P ops Q (o::rest) a (wr.alloc (.cells cs e)):=by
 obtain ⟨i0,hi,hz0,hz1,hz2⟩:=info_parts hinfo
 refine wpList_append_own_at (wr.alloc (.cells cs e)) hg s x t hop B e i0 z 1 bytes ht hi hz0 hz1 hz2 hz (by decide) v n xs hs (hown.alloc _) ⟨wr.heap.size,0,none⟩ m m cs.toList hx (by simp[hm]) ?_ h1 hroom' hroom (by simp;omega) ?_
 ·intro j u hj
  rw[Addr.add_lit,Nat.zero_add]
  rw[World.cell?_alloc_at _ _ _ _ rfl]
  simpa using hj
 intro v' w1 h1 h2 _ h4
 refine hK v' w1 h1 ⟨h2.os,h2.tape,h2.output,?_,fun k hk hne=>(h2.block k (by simp;omega) hne).trans (Below.heap_alloc wr _ k hk)⟩ (by simpa using h4)
 have:=h2.size
 simp at this
 omega
theorem own_base{w:World}{B B':Nat}{e:TypeId}{size:Nat}{v:Value}{n:Nat}{xs:List Value}(h:w.ownsRow B e size v n xs)(hb:B'≤B):w.ownsRow B' e size v n xs:=
 ⟨h.1,h.2.imp id fun ⟨g,cap,cur,h1,h2,h3⟩=>⟨g,cap,cur,h1,Nat.le_trans hb h2,h3⟩⟩
def partsL(s:ByteArray):List ByteArray:=if s.size=0 then []else (fieldsL s 46).reverse
theorem scells_enc(fs:List ByteArray):scells fs=(fs.map (·.data.toList)).map Go.Proofs.encStr:=by
 unfold scells
 rw[List.map_map]
 exact List.map_congr_left fun b _=>rfl
theorem enc_one:OneCell Go.Proofs.encStr:=fun _=>rfl
theorem fieldsL_pos(s:ByteArray)(b:Int):0<(fieldsL s b).length:=by simp[fieldsL]
theorem implLastFirst(fs:List ByteArray)(B:Nat)(v:Value)(w:World)(h0:0<fs.length)(h1:fs.length≤2097152)(hown:w.ownsRow B 9 1 v fs.length (scells fs)):
  Calls Tryz.prog 29 #[v] w fun e w'=> ∃v',e=.returned v'∧w'.ownsRow w.heap.size 9 1 v' fs.length (scells fs.reverse)∧Below w.heap.size w w':=by
 obtain ⟨i0,hi,hz0,hz1,hz2⟩:=info_parts Tryz.infoStr
 rcases own_shape hown with ⟨h,_⟩|⟨_,g,cap,rfl⟩
 ·omega
 have HC:Hid (Calls Tryz.prog 54 #[.slice (some ⟨g,0,none⟩) fs.length cap] w fun e w'=> ∃v',e=.returned v'∧w'.ownsRow w.heap.size 9 1 v' fs.length (scells fs)∧Below w.heap.size w w'):=by
  refine (AnyE.slices_Clone Tryz.laysSlgn41 i0 _ 1 16 hi hz0 hz1 hz2 rfl (by decide) Tryz.sizeOf9 g 0 fs.length cap (scells fs) w (by rw[scells_length,Nat.mul_one]) (by unfold maxLen;omega) (by omega) ?_ ?_).mono ?_
  ·intro j u hj
   have hjl:j<fs.length:=by
    have:=(List.getElem?_eq_some_iff.1 hj).1
    rwa[scells_length]at this
   rw[Nat.zero_add,scell_at hown j hjl]
   unfold scells at hj
   rw[List.getElem?_map,List.getElem?_eq_getElem hjl]at hj
   rw[←hj,List.getD_eq_getElem?_getD,List.getElem?_eq_getElem hjl]
   rfl
  ·intro u hu
   unfold scells at hu
   obtain ⟨b,_,rfl⟩:=List.mem_map.1 hu
   rfl
  rintro e w' ⟨v',he,ho,_,hb⟩
  exact ⟨v',he,ho,hb⟩
 clear hown
 go_enter Tryz.func29,Tryz.ntmps29
 go_wp2_with fail
 refine HC.out.mono ?_
 rintro e wa ⟨va,rfl,oa,ba⟩
 rcases oa.2 with ⟨_,hx⟩|⟨q,cq,cur,rfl,hbase,hb,p1,p2,p3,p4⟩
 ·exact absurd hx (by omega)
 have hH:Sort.Holds Go.Proofs.encStr wa q 0 (fs.map (·.data.toList)).toArray:=holds_of_block hb (by rw[List.length_map,←scells_enc];simpa using p4)
 have HR:Hid (Calls Tryz.prog 55 #[.slice (some ⟨q,0,none⟩) fs.length cq] wa fun e w'=>e=.returned (.tuple #[])∧w'.ownsRow w.heap.size 9 1 (.slice (some ⟨q,0,none⟩) fs.length cq) fs.length (scells fs.reverse)∧wa.grownBy w' (some q)):=by
  have hr:=AnyE.slices_Reverse Tryz.laysSlgn35 Go.Proofs.encStr enc_one q 0 cq (fs.map (·.data.toList)) wa hH (by rw[List.length_map];omega)
  rw[List.length_map]at hr
  refine hr.mono ?_
  rintro e w' ⟨he,n,hw⟩
  refine ⟨he,?_,?_⟩
  ·have:=ownsRow_sorted (n:=n) (os:= #[]) (ss:=fs.map (·.data.toList)) (ts:=(fs.map (·.data.toList)).reverse) (by simp) hbase hb (by rw[List.length_map];exact p1) p2 p3
   rw[Sort.grow_empty,←hw,List.length_map,←List.map_reverse,←scells_enc]at this
   exact this
  have:=grownBy_sorted (w:=wa) (g:=q) (n:=n) (os:= #[]) (fs.map (·.data.toList)).reverse.toArray
  rw[Sort.grow_empty,←hw]at this
  exact this
 clear hH hb p4 p3 p2 p1 oa
 go_wp2_with fail
 refine HR.out.mono ?_
 rintro e wb ⟨rfl,ob,gb⟩
 have B2:Below w.heap.size w wb:=ba.grown gb ba.size (fun k hk=>by cases hk;exact hbase)
 clear gb ba
 go_wp2_with fail
 go_ret
 exact ⟨_,rfl,ob,B2⟩
theorem fields_le(s:ByteArray)(b:Int):(fieldsL s b).length≤s.size+1:=by
 have:=(fieldsTo_le s b s.size).2
 simp[fieldsL];omega
theorem parts_empty_yes{u:ByteArray}(h:u.size=0):u.toList.isEmpty=true:=by
 rw[ByteArray.toList_eq,List.isEmpty_iff_length_eq_zero]
 simpa using h
theorem parts_empty_no{u:ByteArray}(h:0<u.size):u.toList.isEmpty=false:=by
 cases he:u.toList.isEmpty with
 |false=>rfl
 |true=>
  rw[ByteArray.toList_eq,List.isEmpty_iff_length_eq_zero]at he
  have:u.size=0:=by simpa using he
  omega
theorem implParts(s:ByteArray)(w:World)(hs:s.size≤1048576):
  Calls Tryz.prog 10 #[.string s] w fun e w'=> ∃v,e=.returned v∧w'.ownsRow w.heap.size 9 1 v (partsL s).length (scells (partsL s))∧Below w.heap.size w w':=by
 by_cases h0:s.size=0
 ·have hem:=parts_empty_yes h0
  have HP:Hid (partsL s=[]):=by show _=_;unfold partsL;rw[if_pos h0]
  have HO:(w.alloc (.cells #[] 9)).ownsRow w.heap.size 9 1 (.slice (some ⟨w.heap.size,0,none⟩) 0 0) 0 []:=World.ownsRow_lit w #[] 0 (Nat.le_refl _) (by decide) rfl
  go_enter Tryz.func10,Tryz.ntmps10
  go_wp2_with fail
  go_ret
  rw[HP.out]
  exact ⟨_,rfl,HO,(Below.refl _ _).alloc (Nat.le_refl _) _⟩
 have hp:0<s.size:=by omega
 have hem:=parts_empty_no hp
 have HP:Hid (partsL s=(fieldsL s 46).reverse):=by show _=_;unfold partsL;rw[if_neg h0]
 have hn:=fieldsL_pos s 46
 have hn2:=fields_le s 46
 have CF:Hid (Calls Tryz.prog 28 #[.string s,.int .u8 46] w fun e w'=> ∃v,e=.returned v∧w'.ownsRow w.heap.size 9 1 v (fieldsL s 46).length (scells (fieldsL s 46))∧Below w.heap.size w w'):=implFields s 46 w hs
 go_enter Tryz.func10,Tryz.ntmps10
 go_wp2_with fail
 refine CF.out.mono ?_
 rintro e wa ⟨va,rfl,oa,ba⟩
 go_wp2_with fail
 refine (implLastFirst (fieldsL s 46) _ va wa hn (by omega) oa).mono ?_
 rintro e wb ⟨vb,rfl,ob,bb⟩
 have B:=ba.trans (bb.mono ba.size)
 have O:=own_base ob ba.size
 clear oa ba bb ob
 go_wp2_with fail
 go_ret
 rw[HP.out,List.length_reverse]
 exact ⟨_,rfl,O,B⟩
theorem rev_step(l:List ByteArray)(k:Nat)(h:k<l.length):l.reverse.take (l.length-k)=l.reverse.take (l.length-(k+1))++[l.getD k ByteArray.empty]:=by
 have e:l.length-k=l.length-(k+1)+1:=by omega
 have hk:l.length-(k+1)<l.reverse.length:=by rw[List.length_reverse];omega
 rw[e,List.take_succ_eq_append_getElem hk,List.getElem_reverse]
 have e2:l.length-1-(l.length-(k+1))=k:=by omega
 simp only[e2]
 rw[List.getD_eq_getElem?_getD,List.getElem?_eq_getElem h]
 rfl
theorem specParts(s:ByteArray)(w:World)(hs:s.size≤1048576):
  Calls Tryz.prog 62 #[.string s] w fun e w'=> ∃v,e=.returned v∧w'.ownsRow w.heap.size 9 1 v (partsL s).length (scells (partsL s))∧Below w.heap.size w w':=by
 have HO:(w.alloc (.cells #[] 9)).ownsRow w.heap.size 9 1 (.slice (some ⟨w.heap.size,0,none⟩) 0 0) 0 []:=World.ownsRow_lit w #[] 0 (Nat.le_refl _) (by decide) rfl
 by_cases h0:s.size=0
 ·have hem:=parts_empty_yes h0
  have HP:Hid (partsL s=[]):=by show _=_;unfold partsL;rw[if_pos h0]
  go_enter Tryz.func62,Tryz.ntmps62
  go_wp2_with fail
  go_ret
  rw[HP.out]
  exact ⟨_,rfl,HO,(Below.refl _ _).alloc (Nat.le_refl _) _⟩
 have hp:0<s.size:=by omega
 have hem:=parts_empty_no hp
 have HP:Hid (partsL s=(fieldsL s 46).reverse):=by show _=_;unfold partsL;rw[if_neg h0]
 have hn:=fieldsL_pos s 46
 have hn2:=fields_le s 46
 have CF:Hid (∀W,Calls Tryz.prog 66 #[.string s,.int .u8 46] W fun e w'=> ∃v,e=.returned v∧w'.ownsRow W.heap.size 9 1 v (fieldsL s 46).length (scells (fieldsL s 46))∧Below W.heap.size W w'):=fun W=>specFields s 46 W hs
 go_enter Tryz.func62,Tryz.ntmps62
 go_wp2_with fail
 refine (CF.out _).mono ?_
 rintro e wa ⟨va,rfl,oa,ba⟩
 have OA:=own_below HO ba
 rcases own_shape oa with ⟨h,_⟩|⟨_,g,cap,rfl⟩
 ·omega
 have hg:=(oa.lt g rfl).1
 have hg2:=(oa.lt g rfl).2
 have B0:Below w.heap.size w wa:=((Below.refl _ w).alloc (Nat.le_refl _) _).trans (ba.mono (by simp))
 generalize fieldsL s 46=fs at*
 obtain ⟨n,hnn⟩: ∃n,fs.length=n:=⟨_,rfl⟩
 clear ba HO
 have HC0:Hid (∀j,j<n→wa.cell? ⟨g,j,none⟩=some (.string (fs.getD j ByteArray.empty))):=fun j hj=>by
  subst hnn
  exact scell_at oa j hj
 subst hnn
 clear oa
 go_wp2_with fail
 go_loopw[3,5] (fun v i wr=> ∃k:Nat,k≤fs.length∧i=.int .i64 ((k:Int)-1)∧wr.ownsRow w.heap.size 9 1 v (fs.length-k) (scells (fs.reverse.take (fs.length-k)))∧(∀j,j<fs.length→wr.cell? ⟨g,j,none⟩=some (.string (fs.getD j ByteArray.empty)))∧some g≠v.ownBlock∧g<wr.heap.size∧Below w.heap.size w wr)
  (fun _ i _=>(intOf i+1).toNat)
 case atStart=>
  refine ⟨fs.length,Nat.le_refl _,rfl,?_,HC0.out,?_,hg2,B0⟩
  ·rw[Nat.sub_self]
   exact OA
  simp[Value.ownBlock]
  simp at hg
  omega
 obtain ⟨k,hk,rfl,ow,hcell,hne,hgl,hbel⟩:=hrel
 have HCL:Hid (∀j,j<fs.length→wr.cell? ⟨g,j,none⟩=some (.string (fs.getD j ByteArray.empty))):=hcell
 have hsz:=hbel.size
 cases k with
 |zero=>
  rw[Nat.sub_zero,List.take_of_length_le (by simp)]at ow
  clear hcell
  go_wp2_with fail
  go_ret
  rw[HP.out,List.length_reverse]
  exact ⟨_,rfl,ow,hbel⟩
 |succ q=>
  have hq:((q+1:Nat):Int)-1=(q:Int):=by omega
  have hc:=hcell q (by omega)
  have hlen:(fs.length-(q+1)+1:Nat)=fs.length-q:=by omega
  have HS:Hid (fs.reverse.take (fs.length-q)=fs.reverse.take (fs.length-(q+1))++[fs.getD q ByteArray.empty]):=rev_step fs q (by omega)
  rw[hq]
  obtain ⟨y,hy⟩: ∃y,fs.getD q ByteArray.empty=y:=⟨_,rfl⟩
  rw[hy]at hc HS
  clear hcell hq hy
  have hql:(q:Int)<fs.length:=by omega
  go_wp2_with (at_builtin;refine wpList_append_newAt _ rfl _ _ 33 rfl w.heap.size 9 (.string ⟨#[]⟩) 16 Tryz.underlying33 Tryz.infoStr rfl _ _ _ rfl ow #[.string y] 1 rfl rfl (str_one _) (by omega) (by unfold maxLen;omega) hsz ?_)
  intro v' w1 ow' gr hat
  have R:w1.ownsRow w.heap.size 9 1 v' (fs.length-q) (scells (fs.reverse.take (fs.length-q))):=by
   rw[HS.out,scells_snoc]
   exact ow'
  have B1:Below w.heap.size w w1:=hbel.grown gr hsz (fun k hk=>(ow.lt k hk).1)
  have hgw:w1.heap[g]? =wr.heap[g]? :=gr.block g hgl hne
  have C1:Hid (∀j,j<fs.length→w1.cell? ⟨g,j,none⟩=some (.string (fs.getD j ByteArray.empty))):=fun j hj=>
   (World.cell?_of_block (w:=wr) (a:=⟨g,j,none⟩) hgw).trans (HCL.out j hj)
  have hne1:some g≠v'.ownBlock:=by
   rcases hat with h|h
   ·rw[h];exact hne
   rw[h];intro h2;cases h2;omega
  have hgl1:g<w1.heap.size:=Nat.lt_of_lt_of_le hgl gr.size
  clear ow ow' gr hat hbel hc HCL hgw
  go_wp2_with fail
  go_roundw
  case rel=>exact ⟨q,by omega,by go_num,R,C1.out,hne1,hgl1,B1⟩
  case measure=>simp[intOf]
end Go.Proofs.YtijliddchoehhaaGreatDoor
namespace Go.Proofs.YtijliddchoehhaaGreatDoor
open Go.RowKit
set_option linter.unusedVariables false
structure RV where
 ps:List ByteArray
 ex:Bool
def partB(ex:Bool)(n i:Nat)(p:ByteArray):Bool:=(decide (p.data.toList=[42])&&decide (i+1=n)&& !ex)||labL p.data.toList
def ruleB(r:RV):Bool:=decide (1≤r.ps.length∧r.ps.length≤8)&&(!r.ex||decide (2≤r.ps.length))&&(List.range r.ps.length).all fun i=>partB r.ex r.ps.length i (r.ps.getD i ByteArray.empty)
def sameB(a b:RV):Bool:=(a.ex==b.ex)&&decide (a.ps=b.ps)
def newB(l:List RV)(i:Nat):Bool:=ruleB (l.getD i ⟨[],false⟩)&&(List.range i).all fun k=> !sameB (l.getD k ⟨[],false⟩) (l.getD i ⟨[],false⟩)
def rulesB(l:List RV):Bool:=((List.range l.length).all fun i=>newB l i)&&decide (l.length≤60)
def fitsP(r:RV)(ps:List ByteArray):Bool:=decide (r.ps.length≤ps.length)&&(List.range r.ps.length).all fun i=>decide ((r.ps.getD i ByteArray.empty).data.toList=[42])||decide (r.ps.getD i ByteArray.empty=ps.getD i ByteArray.empty)
def fitsB(r:RV)(s:ByteArray):Bool:=fitsP r (partsL s)
theorem ba_eq{a b:ByteArray}:a=b↔a.data.toList=b.data.toList:=⟨fun h=>by rw[h],fun h=>by
 cases a;cases b
 congr
 exact Array.toList_inj.1 h⟩
theorem all_range{n:Nat}{p:Nat→Bool}:(List.range n).all p=true↔ ∀i,i<n→p i=true:=by
 rw[List.all_eq_true]
 exact ⟨fun h i hi=>h i (List.mem_range.2 hi),fun h i hi=>h i (List.mem_range.1 hi)⟩
theorem ruleB_yes{r:RV}(h:ruleB r=true):(1≤r.ps.length∧r.ps.length≤8)∧(r.ex=true→2≤r.ps.length)∧ ∀i,i<r.ps.length→partB r.ex r.ps.length i (r.ps.getD i ByteArray.empty)=true:=by
 unfold ruleB at h
 simp only[Bool.and_eq_true,decide_eq_true_eq,Bool.or_eq_true,Bool.not_eq_true']at h
 obtain ⟨⟨h1,h2⟩,h3⟩:=h
 refine ⟨h1,fun he=> ?_,all_range.1 h3⟩
 rcases h2 with h2|h2
 ·rw[he]at h2;cases h2
 exact h2
end Go.Proofs.YtijliddchoehhaaGreatDoor
namespace Go.Proofs.YtijliddchoehhaaGreatDoor
open Go.RowKit
theorem own_room{w:World}{B:Nat}{e:TypeId}{size g n cap:Nat}{xs:List Value}(h:w.ownsRow B e size (.slice (some ⟨g,0,none⟩) n cap) n xs):n≤cap:=by
 rcases h.2 with ⟨h,_⟩|⟨_,_,_,h,_,_,h3,_⟩
 ·cases h
 cases h;exact h3
def StrRow(w:World)(v:Value)(l:List ByteArray):Prop:=
 (l=[]∧ ∃ao cap,v=.slice ao 0 cap)∨(0<l.length∧ ∃g off cap,v=.slice (some ⟨g,off,none⟩) l.length (l.length+cap)∧g<w.heap.size∧ ∀i,i<l.length→w.cell? ⟨g,off+i,none⟩=some (.string (l.getD i ByteArray.empty)))
theorem StrRow.same{w w':World}{v:Value}{l:List ByteArray}(h:StrRow w v l)(hs:w.heap.size≤w'.heap.size)(hb: ∀k,k<w.heap.size→w'.heap[k]? =w.heap[k]?):StrRow w' v l:=by
 rcases h with h|⟨h0,g,off,cap,h1,h2,h3⟩
 ·exact .inl h
 exact .inr ⟨h0,g,off,cap,h1,by omega,fun i hi=>(World.cell?_of_block (w:=w) (a:=⟨g,off+i,none⟩) (hb g h2)).trans (h3 i hi)⟩
theorem StrRow.below{w w':World}{v:Value}{l:List ByteArray}(h:StrRow w v l)(hb:Below w.heap.size w w'):StrRow w' v l:=h.same hb.size hb.block
theorem StrRow.of_own{w:World}{B:Nat}{e:TypeId}{v:Value}{l:List ByteArray}{n:Nat}(h:w.ownsRow B e 1 v n (scells l)):StrRow w v l:=by
 have hl:l.length=n:=by have:=h.1;simpa[scells] using this
 subst hl
 rcases own_shape h with ⟨h0,h1,ao,cap,rfl⟩|⟨h0,g,cap,rfl⟩
 ·refine .inl ⟨List.eq_nil_of_length_eq_zero h0,ao,cap,?_⟩
  rfl
 exact .inr ⟨h0,g,0,cap-l.length,by rw[Nat.add_sub_cancel' (own_room h)],(h.lt g rfl).2,fun i hi=>by rw[Nat.zero_add];exact scell_at h i hi⟩
theorem StrRow.slice{w:World}{v:Value}{l:List ByteArray}(h:StrRow w v l): ∃ao cap,v=.slice ao l.length cap:=by
 rcases h with ⟨rfl,ao,cap,rfl⟩|⟨_,g,off,cap,h1,_⟩
 ·exact ⟨ao,cap,rfl⟩
 exact ⟨_,_,h1⟩
theorem StrRow.nil(w:World)(ao:Option Addr)(cap:Nat):StrRow w (.slice ao 0 cap) []:=.inl ⟨rfl,ao,cap,rfl⟩
def rv0:RV:=⟨[],false⟩
def RuleRow(w:World)(v:Value)(l:List RV):Prop:=
 (l=[]∧ ∃ao cap,v=.slice ao 0 cap)∨(0<l.length∧ ∃g off cap,v=.slice (some ⟨g,off,none⟩) l.length (l.length+cap)∧g<w.heap.size∧ ∀i,i<l.length→ ∃p,w.cell? ⟨g,off+i*2,none⟩=some p∧StrRow w p (l.getD i rv0).ps∧w.cell? ⟨g,off+i*2+1,none⟩=some (.bool (l.getD i rv0).ex))
theorem RuleRow.same{w w':World}{v:Value}{l:List RV}(h:RuleRow w v l)(hs:w.heap.size≤w'.heap.size)(hb: ∀k,k<w.heap.size→w'.heap[k]? =w.heap[k]?):RuleRow w' v l:=by
 rcases h with h|⟨h0,g,off,cap,h1,h2,h3⟩
 ·exact .inl h
 refine .inr ⟨h0,g,off,cap,h1,by omega,fun i hi=> ?_⟩
 obtain ⟨p,c1,c2,c3⟩:=h3 i hi
 exact ⟨p,(World.cell?_of_block (w:=w) (a:=⟨g,off+i*2,none⟩) (hb g h2)).trans c1,c2.same hs hb,(World.cell?_of_block (w:=w) (a:=⟨g,off+i*2+1,none⟩) (hb g h2)).trans c3⟩
theorem RuleRow.below{w w':World}{v:Value}{l:List RV}(h:RuleRow w v l)(hb:Below w.heap.size w w'):RuleRow w' v l:=h.same hb.size hb.block
theorem RuleRow.slice{w:World}{v:Value}{l:List RV}(h:RuleRow w v l): ∃ao cap,v=.slice ao l.length cap:=by
 rcases h with ⟨rfl,ao,cap,rfl⟩|⟨_,g,off,cap,h1,_⟩
 ·exact ⟨ao,cap,rfl⟩
 exact ⟨_,_,h1⟩
def BAt(W:World)(B:Nat)(vs:List Value):Prop:=(∀j v,vs[j]? =some v→W.cell? ⟨B,j,none⟩=some v)∧(∀j,W.frozen? ⟨B,j,none⟩=false)∧B<W.heap.size
theorem BAt.new(w:World)(vs:Array Value)(t:TypeId):BAt (w.alloc (.cells vs t)) w.heap.size vs.toList:=by
 refine ⟨fun j v h=> ?_,fun j=>frozen_of_row _ _ j _ t (heap_alloc_new w _),by simp⟩
 rw[World.cell?_alloc_at _ _ _ _ rfl]
 simpa using h
theorem BAt.same{W W':World}{B:Nat}{vs:List Value}(h:BAt W B vs)(hz:W.heap.size≤W'.heap.size)(hs:W'.heap[B]? =W.heap[B]?):BAt W' B vs:=
 ⟨fun j v hv=>(World.cell?_of_block (w:=W) (a:=⟨B,j,none⟩) hs).trans (h.1 j v hv),fun j=>(World.frozen?_of_block (w:=W) (a:=⟨B,j,none⟩) hs).trans (h.2.1 j),Nat.lt_of_lt_of_le h.2.2 hz⟩
theorem BAt.below{W W':World}{B:Nat}{vs:List Value}(h:BAt W B vs)(hb:Below W.heap.size W W'):BAt W' B vs:=h.same hb.size (hb.block B h.2.2)
theorem BAt.alloc{W:World}{B:Nat}{vs:List Value}(h:BAt W B vs)(o:Obj):BAt (W.alloc o) B vs:=h.below ((Below.refl _ _).alloc (Nat.le_refl _) o)
theorem BAt.grown{W W':World}{B C:Nat}{vs:List Value}(h:BAt W B vs)(hg:W.grownBy W' (some C))(hne:B≠C):BAt W' B vs:=h.same hg.size (hg.block B h.2.2 (fun e=>hne (by injection e)))
theorem frozen_put(W:World)(B C j i:Nat)(v:Value)(h:W.frozen? ⟨B,i,none⟩=false):(W.setCell ⟨C,j,none⟩ v).frozen? ⟨B,i,none⟩=false:=by
 simpa[go_sem] using h
theorem BAt.set{W:World}{B:Nat}{vs:List Value}(h:BAt W B vs)(j:Nat)(hj:j<vs.length)(x:Value):BAt (W.setCell ⟨B,j,none⟩ x) B (vs.set j x):=by
 refine ⟨fun i v hv=> ?_,fun i=>frozen_put W B B j i x (h.2.1 i),by have:=h.2.2;simpa using this⟩
 by_cases e:j=i
 ·subst e
  rw[World.cell?_setCell_same' _ _ _ (by rw[h.1 j _ (List.getElem?_eq_getElem hj)];rfl)]
  rw[List.getElem?_set_self hj]at hv
  exact hv
 rw[World.cell?_setCell_other _ _ _ _ (fun h=>e (by injection h)),h.1 i v]
 rwa[List.getElem?_set_ne e]at hv
theorem BAt.other{W:World}{B C:Nat}{vs:List Value}(h:BAt W B vs)(hne:B≠C)(j:Nat)(x:Value):BAt (W.setCell ⟨C,j,none⟩ x) B vs:=by
 refine ⟨fun i v hv=> ?_,fun i=>frozen_put W B C j i x (h.2.1 i),by have:=h.2.2;simpa using this⟩
 rw[World.cell?_setCell_other _ _ _ _ (fun h=>hne (by injection h with h1 _;exact h1.symm))]
 exact h.1 i v hv
theorem put_grown(W:World)(C j:Nat)(x:Value):W.grownBy (W.setCell ⟨C,j,none⟩ x) (some C):=
 have b:=(Below.refl C W).setCell (p:=⟨C,j,none⟩) (Nat.le_refl _) x
 ⟨b.os,b.tape,b.output,b.size,fun k hk hne=>heap_setCell_other W ⟨C,j,none⟩ k x (fun e=>hne (by rw[e]))⟩
theorem own_put{W:World}{base:Nat}{e:TypeId}{size n:Nat}{v:Value}{xs:List Value}(h:W.ownsRow base e size v n xs){C:Nat}(hC:C<base)(j:Nat)(x:Value):(W.setCell ⟨C,j,none⟩ x).ownsRow base e size v n xs:=
 h.kept (put_grown W C j x) (.inr fun e=>by have:=(h.lt C e).1;omega)
theorem below_drewN{B:Nat}{w w':World}(h:Below B w w')(n:Nat):Below B w (w'.drewN n):=⟨h.os,h.tape,h.output,h.size,h.block⟩
theorem pctAt_not{s:ByteArray}{k:Nat}(h:k+2<s.size)(h1:s[k].toNat≠37):pctAt s k= -1:=by
 rw[pctAt_in s k h]
 unfold pctV
 rw[if_neg (fun h=>h1 h.1)]
theorem pctAt_hex{s:ByteArray}{k d1 d2:Nat}(h:k+2<s.size)(h1:s[k].toNat=37)(e1:s[k+1].toNat=d1)(e2:s[k+2].toNat=d2):pctAt s k=if 0≤hexN d1∧0≤hexN d2 then hexN d1*16+hexN d2 else-1:=by
 rw[pctAt_in s k h,e1,e2]
 unfold pctV
 simp[h1]
theorem run_at(P:Program)(t:TypeId)(h:P.underlying t=some .string)(s:ByteArray)(i:Int)(j d:Nat)(hj:j<s.size)(hi:i=(j:Int))(hd:s[j].toNat=d)(W:World):
  (Instr.index t (.string s) (.int .i64 i)).run P W=.ok (.int .u8 (d:Int)) W:=by
 subst hi
 rw[run_index_string W t s .i64 _ h,dif_pos (by omega)]
 simp[hd]
theorem specByte(s:ByteArray)(k:Nat)(w:World)(hk:k<s.size)(hs:s.size≤1099511627776):
  Calls Tryz.prog 99 #[.string s,.int .i64 (k:Int)] w fun e w'=>e=.returned (.int .i64 (pctAt s k))∧Below w.heap.size w w':=by
 have hki:(k:Int)≤1099511627776:=by omega
 have hk0:0≤(k:Int):=by omega
 have hw1:IntKind.i64.wrap ((k:Int)+1)=((k+1:Nat):Int):=by rw[IntKind.wrap_i64];omega
 have hw2:IntKind.i64.wrap ((k:Int)+2)=((k+2:Nat):Int):=by rw[IntKind.wrap_i64];omega
 by_cases h2:k+2<s.size
 ·have h2i: ¬(s.size:Int)≤(k:Int)+2:=by omega
  by_cases h37:s[k].toNat=37
  ·obtain ⟨d1,e1⟩: ∃d:Nat,s[k+1].toNat=d:=⟨_,rfl⟩
   obtain ⟨d2,e2⟩: ∃d:Nat,s[k+2].toNat=d:=⟨_,rfl⟩
   have i1:=run_at Tryz.prog 9 Tryz.underlying9 s ((k:Int)+1) (k+1) d1 (by omega) (by omega) e1
   have i2:=run_at Tryz.prog 9 Tryz.underlying9 s ((k:Int)+2) (k+2) d2 (by omega) (by omega) e2
   have b1:d1≤255:=by have:=s[k+1].toNat_lt;omega
   have b2:d2≤255:=by have:=s[k+2].toNat_lt;omega
   have HV:Hid (pctAt s k=if 0≤hexN d1∧0≤hexN d2 then hexN d1*16+hexN d2 else-1):=pctAt_hex h2 h37 e1 e2
   have c1:=fun n:Nat=>Calls.quiet_of_same (w:=w) (n:=n) (v:=.int .i64 (hexN d1)) ((specHex d1 (w.drewN n) (by omega)).mono fun _ _ ⟨a,b⟩=>⟨a,b.symm⟩)
   have c2:=fun n:Nat=>Calls.quiet_of_same (w:=w) (n:=n) (v:=.int .i64 (hexN d2)) ((specHex d2 (w.drewN n) (by omega)).mono fun _ _ ⟨a,b⟩=>⟨a,b.symm⟩)
   have q1:=fun W:World=>specHex d1 W (by omega)
   have q2:=fun W:World=>specHex d2 W (by omega)
   have l1:=hexN_le d1
   have l2:=hexN_le d2
   generalize hexN d1=x at HV c1 l1 q1
   generalize hexN d2=y at HV c2 l2 q2
   have C1:Hid (∀n,Calls Tryz.prog 113 #[.int .u8 (d1:Int)] (w.drewN n) fun e w''=>e=.returned (.int .i64 x)∧ ∃m,w''=w.drewN m):=c1
   have C2:Hid (∀n,Calls Tryz.prog 113 #[.int .u8 (d2:Int)] (w.drewN n) fun e w''=>e=.returned (.int .i64 y)∧ ∃m,w''=w.drewN m):=c2
   have D1:Hid (∀W,CS 113 #[.int .u8 (d1:Int)] W (.int .i64 x)):=q1
   have D2:Hid (∀W,CS 113 #[.int .u8 (d2:Int)] W (.int .i64 y)):=q2
   clear c1 c2 q1 q2
   obtain ⟨l1a,l1b⟩:=l1
   obtain ⟨l2a,l2b⟩:=l2
   by_cases hx:0≤x
   ·by_cases hy:0≤y
    ·go_enter Tryz.func99,Tryz.ntmps99
     go_wp2_with fail
     refine (D1.out _).mono ?_
     rintro e w' ⟨rfl,rfl⟩
     go_wp2_with fail
     refine (D2.out _).mono ?_
     rintro e w' ⟨rfl,rfl⟩
     go_wp2_with fail
     go_quiet ((go_at_call 113;first|with_reducible exact C1.out _|with_reducible exact C2.out _))
     go_wp2
     go_ret
     exact ⟨ret_int (by rw[HV.out,if_pos ⟨hx,hy⟩]),below_drewN (Below.refl _ _) _⟩
    go_enter Tryz.func99,Tryz.ntmps99
    go_wp2_with fail
    refine (D1.out _).mono ?_
    rintro e w' ⟨rfl,rfl⟩
    go_wp2_with fail
    refine (D2.out _).mono ?_
    rintro e w' ⟨rfl,rfl⟩
    go_wp2
    go_ret
    exact ⟨ret_int (by rw[HV.out,if_neg (by omega)]),Below.refl _ _⟩
   go_enter Tryz.func99,Tryz.ntmps99
   go_wp2_with fail
   refine (D1.out _).mono ?_
   rintro e w' ⟨rfl,rfl⟩
   go_wp2
   go_ret
   exact ⟨ret_int (by rw[HV.out,if_neg (by omega)]),Below.refl _ _⟩
  have HV:Hid (pctAt s k= -1):=pctAt_not h2 h37
  obtain ⟨d0,e0⟩: ∃d:Nat,s[k].toNat=d:=⟨_,rfl⟩
  have hne: ¬(d0:Int)=37:=by omega
  clear h37
  go_enter Tryz.func99,Tryz.ntmps99
  go_wp2
  go_ret
  exact ⟨ret_int (by rw[HV.out]),Below.refl _ _⟩
 have h2i:(s.size:Int)≤(k:Int)+2:=by omega
 have HV:Hid (pctAt s k= -1):=pctAt_out s k (by omega)
 go_enter Tryz.func99,Tryz.ntmps99
 go_wp2
 go_ret
 exact ⟨ret_int (by rw[HV.out]),Below.refl _ _⟩
end Go.Proofs.YtijliddchoehhaaGreatDoor
namespace Go.Proofs.YtijliddchoehhaaGreatDoor
open Go.RowKit
set_option linter.unusedVariables false
theorem StrRow.grown{w w':World}{v:Value}{l:List ByteArray}{B:Nat}(h:StrRow w v l)(hg:w.grownBy w' (some B))(hne:v.ownBlock≠some B):StrRow w' v l:=by
 rcases h with h|⟨h0,g,off,cap,rfl,h2,h3⟩
 ·exact .inl h
 have hgB:some g≠some B:=fun e=>hne e
 refine .inr ⟨h0,g,off,cap,rfl,Nat.lt_of_lt_of_le h2 hg.size,fun i hi=>hg.cell (a:=⟨g,off+i,none⟩) (h3 i hi) hgB⟩
theorem own_wide0{w:World}{base base':Nat}{e:TypeId}{size n:Nat}{v:Value}{xs:List Value}(h:w.ownsRow base e size v n xs)(hb:base'≤base):w.ownsRow base' e size v n xs:=by
 refine ⟨h.1,?_⟩
 rcases h.2 with h|⟨g,cap,cur,h1,h2,h3⟩
 ·exact .inl h
 exact .inr ⟨g,cap,cur,h1,Nat.le_trans hb h2,h3⟩
theorem Tryz.infoRule:(Tryz.prog.info? 37).map (fun i=>(i.zero,i.size,i.bytes))=some (some (.agg #[.slice none 0 0,.bool false]),2,32):=by kernel_rfl
theorem RuleRow.of_own{w:World}{base:Nat}{e:TypeId}{v:Value}{l:List RV}{vs:List Value}(h:w.ownsRow base e 2 v l.length vs)
  (hin: ∀i,i<l.length→ ∃p,vs[i*2]? =some p∧StrRow w p (l.getD i rv0).ps∧vs[i*2+1]? =some (.bool (l.getD i rv0).ex)):RuleRow w v l:=by
 by_cases h0:l.length=0
 ·have hl:l=[]:=List.eq_nil_of_length_eq_zero h0
  rw[h0]at h
  rcases h.2 with ⟨rfl,_⟩|⟨g,cap,cur,rfl,_⟩
  ·exact .inl ⟨hl,_,_,rfl⟩
  exact .inl ⟨hl,_,_,rfl⟩
 rcases h.2 with ⟨_,h1⟩|⟨g,cap,cur,rfl,_⟩
 ·exact absurd h1 h0
 refine .inr ⟨by omega,g,0,cap-l.length,by rw[Nat.add_sub_cancel' (own_room h)],(h.lt g rfl).2,fun i hi=> ?_⟩
 obtain ⟨p,h1,h2,h3⟩:=hin i hi
 refine ⟨p,?_,h2,?_⟩
 ·rw[Nat.zero_add,h.cellAt (i*2) (by omega)];exact h1
 rw[Nat.zero_add,h.cellAt (i*2+1) (by omega)];exact h3
end Go.Proofs.YtijliddchoehhaaGreatDoor
