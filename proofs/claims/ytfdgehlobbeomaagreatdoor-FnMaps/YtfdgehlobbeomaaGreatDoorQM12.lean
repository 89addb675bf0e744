/- BldWalk, EntImpl, JoinPlain, StrTo, EntTo, AppAt. -/
import Derived.Test.YtfdgehlobbeomaaGreatDoorQM10
import Derived.Test.YtfdgehlobbeomaaGreatDoorQM11
import Derived.Maps.AppendAt
set_option maxHeartbeats 4000000
set_option maxRecDepth 100000
namespace Go.Proofs.YtfdgehlobbeomaaGreatDoor
open Go.RowKit
set_option linter.unusedVariables false
def Tryz.renW:Go.Shelf.Ren:=⟨fun|166=>17|240=>39|276=>57|n=>n,fun|3=>3|4=>4|9=>9|20=>20|37=>22|70=>43|72=>45|75=>47|164=>102|5=>5|76=>48|80=>52|n=>n,fun n=>n⟩
theorem Tryz.laysW:Lays.n166 Tryz.prog Tryz.renW:=by constructor<;>first|kernel_rfl|(intro _;kernel_rfl)
theorem Tryz.extraW:Builder.Extra Tryz.prog Tryz.renW:={
 sizeBuilder:=by kernel_rfl
 liesBuilder:=by kernel_rfl
 t5:=Tryz.underlying5
 a5:=Tryz.isAgg5
 z5:=Tryz.sizeOf5
 v5:=Tryz.zeroValue5
 infoByte:=by kernel_rfl
 cellsByte:=by kernel_rfl
 sizeByte:=by kernel_rfl
 neB5:=by decide}
abbrev Bld(B:Nat)(l:List UInt8)(w:World):Prop:=Lib.IsBuilderF 45 5 B B (Lib.byteCells l) w
theorem Bld.new(w:World):Bld w.heap.size [] (w.alloc (.cells #[.pointer none,.slice none 0 0] 45)):=Lib.IsBuilderF.of (Lib.fresh_isBuilder _ _ w)
theorem bldAt_below{T e:TypeId}{B b:Nat}{p:Value}{bs:List Value}{w w':World}(h:Lib.BuilderAtF T e B b p bs w)(hb:Below w.heap.size w w'):Lib.BuilderAtF T e B b p bs w':=by
 have hl:=h.lt
 obtain ⟨h1,v,h2,h3,h4⟩:=h
 exact ⟨h1,v,(hb.block b hl).trans h2,h3.kept (row:=none) ⟨hb.os,hb.tape,hb.output,hb.size,fun k hk _=>hb.block k hk⟩ (by cases hv:v.ownBlock<;>simp),h4⟩
theorem Bld.below{B:Nat}{l:List UInt8}{w w':World}(h:Bld B l w)(hb:Below w.heap.size w w'):Bld B l w':=by
 rcases h with h|h
 ·exact .inl (bldAt_below h hb)
 exact .inr (bldAt_below h hb)
theorem Bld.lt{B:Nat}{l:List UInt8}{w:World}(h:Bld B l w):B<w.heap.size:=by
 rcases h with h|h
 ·exact h.lt
 exact h.lt
theorem bldWrite(B:Nat)(l:List UInt8)(s:ByteArray)(w:World)(hl:l.length+s.size≤140737488355328)(h:Bld B l w):
  Calls Tryz.prog 17 #[.pointer (some ⟨B,0,none⟩),.string s] w fun e w'=>e=.returned (.tuple #[.int .i64 s.size,.nilIface])∧Bld B (l++s.data.toList) w'∧Below B w w'∧Lib.OthersKept 5 (some B) w w':=by
 refine (Any.Builder_WriteString_k Tryz.laysW Tryz.extraW B B (Lib.byteCells l) s w h (by rw[Lib.byteCells_length];exact hl) (Nat.le_of_lt h.lt)).mono ?_
 rintro e w' ⟨he,hb,h1,h2⟩
 refine ⟨he,.inr ?_,h1,h2⟩
 have e2:Lib.byteCells (l++s.data.toList)=Lib.byteCells l++Lib.strCells s:=by unfold Lib.byteCells Lib.strCells;rw[List.map_append]
 rw[e2]
 exact hb
theorem bldString(B:Nat)(l:List UInt8)(w:World)(h:Bld B l w):
  Calls Tryz.prog 20 #[.pointer (some ⟨B,0,none⟩)] w fun e w'=>e=.returned (.string ⟨l.toArray⟩)∧Below B w w':=
 (Tryz.Builder_String_any_f B B l w h (Nat.le_of_lt h.lt)).mono fun e w' x=>⟨x.1,x.2.2⟩
end Go.Proofs.YtfdgehlobbeomaaGreatDoor
namespace Go.Proofs.YtfdgehlobbeomaaGreatDoor
open Go.RowKit
set_option linter.unusedVariables false
set_option linter.unusedSimpArgs false
theorem texts_app(a b:List TV):textsL (a++b)=textsL a++textsL b:=by unfold textsL;rw[List.flatMap_append]
theorem texts_drop(l:List TV)(n:Nat):(textsL (l.drop n)).length≤(textsL l).length:=by
 have:=texts_app (l.take n) (l.drop n)
 rw[List.take_append_drop]at this
 rw[this,List.length_append]
 omega
theorem texts_take(l:List TV)(n:Nat):(textsL (l.take n)).length≤(textsL l).length:=by
 have:=texts_app (l.take n) (l.drop n)
 rw[List.take_append_drop]at this
 rw[this,List.length_append]
 omega
theorem cutE_le{f:Int}{l wi be:List TV}{nm:ByteArray}(h:cutE f l=.ok (nm,wi,be)):wi.length≤l.length∧be.length<l.length∧(textsL wi).length≤(textsL l).length∧(textsL be).length≤(textsL l).length:=by
 match l with
 |[]=>cases h
 |t::r=>
  unfold cutE at h
  dsimp only at h
  split at h
  ·cases hq:endA 0 (t::r)with
   |none=>rw[hq]at h;cases h
   |some p=>
    rw[hq]at h
    injection h with h
    injection h with h1 h
    injection h with h2 h3
    subst h2 h3
    refine ⟨?_,?_,Nat.le_trans (texts_drop _ _) (texts_take _ _),texts_drop _ _⟩
    ·rw[List.length_drop,List.length_take];omega
    rw[List.length_drop,List.length_cons];omega
  cases h
theorem take_tok{l:List TV}{k:Nat}(hk:k<l.length):textsL (l.take (k+1))=textsL (l.take k)++(l.getD k tv0).s.data.toList:=by
 rw[take_one hk,texts_app]
 congr 1
 unfold textsL
 simp
theorem implTextIn(nm:ByteArray)(l:List TV)(v:Value)(t:ByteArray)(w:World)(hl:l.length≤1048576)(hz:(textsL l).length≤16777216)(h:TokRow w v l)(ht:textE l=.ok t):
  Calls Tryz.prog 80 #[.agg #[.string nm,v]] w fun e w'=>e=.returned (.string t)∧Below w.heap.size w w':=by
 obtain ⟨hall,ht⟩:(∀k,k<l.length→(l.getD k tv0).k=3)∧(⟨(Lib.trimS (textsL l) blanks4).toArray⟩:ByteArray)=t:=by
  unfold textE at ht
  split at ht
  ·rename_i hh
   injection ht with ht
   refine ⟨fun k hk=> ?_,ht⟩
   have:=List.all_eq_true.1 hh (l.getD k tv0) (by
    rw[List.getD_eq_getElem?_getD,List.getElem?_eq_getElem hk]
    exact List.getElem_mem _)
   exact of_decide_eq_true this
  cases ht
 have HALL:Hid (∀k,k<l.length→(l.getD k tv0).k=3):=hall
 have HT:Hid ((⟨(Lib.trimS (textsL l) blanks4).toArray⟩:ByteArray)=t):=ht
 clear hall ht
 obtain ⟨B,hB⟩: ∃B,B=w.heap.size+1:=⟨_,rfl⟩
 obtain ⟨vo,vc,rfl⟩:=h.slice
 have HROW:Hid (TokRow w (.slice vo l.length vc) l):=h
 clear h
 obtain ⟨O,hO⟩: ∃O,O=(w.alloc (.cells #[.string nm,.slice vo l.length vc] 87)).alloc (.cells #[.pointer none,.slice none 0 0] 45):=⟨_,rfl⟩
 have bO:Below w.heap.size w O:=by rw[hO];exact ((Below.refl _ _).alloc (Nat.le_refl _) _).alloc (by simp) _
 have AO:BAt O w.heap.size [.string nm,.slice vo l.length vc]:=by rw[hO];exact (BAt.new w #[.string nm,.slice vo l.length vc] _).alloc _
 have HB0:Hid (Bld B [] O):=by
  have:=Bld.new (w.alloc (.cells #[.string nm,.slice vo l.length vc] 87))
  rw[World.size_alloc,←hB,←hO]at this
  exact this
 go_enter Tryz.func80,Tryz.ntmps80
 go_upto_region 2 with fail
 rw[←hO,←hB]
 have hwB:w.heap.size≤B:=by omega
 clear hO hB
 have c1:=AO.1 1 _ rfl
 go_wp2_with fail
 clear c1 AO
 go_loopw[9] (fun i wr=> ∃k:Nat,k≤l.length∧i=.int .i64 k∧Hid (Bld B (textsL (l.take k)) wr)∧Below w.heap.size w wr) (fun i _=>l.length-(intOf i).toNat)
 case atStart=>exact ⟨0,Nat.zero_le _,rfl,HB0,bO⟩
 obtain ⟨k,hk,rfl,HB,hbel⟩:=hrel
 clear HB0 bO
 by_cases hlt:k<l.length
 ·have hki:(k:Int)<l.length:=by omega
  obtain ⟨g,off,cc,hv,hg,c1,c2⟩: ∃g off cc,Value.slice vo l.length vc=.slice (some ⟨g,off,none⟩) l.length cc∧g<w.heap.size∧w.cell? ⟨g,off+k*2,none⟩=some (.int .i64 (l.getD k tv0).k)∧w.cell? ⟨g,off+k*2+1,none⟩=some (.string (l.getD k tv0).s):=by
   rcases HROW.out with ⟨h,_⟩|⟨_,g,off,cc,h1,h2,h3⟩
   ·rw[h]at hlt;simp at hlt
   obtain ⟨q1,q2⟩:=h3 k hlt
   exact ⟨g,off,_,h1,h2,q1,q2⟩
  cases hv
  rw[HALL.out k hlt]at c1
  have c1w:=(hbel.cell (p:=⟨g,off+k*2,none⟩) hg).trans c1
  have c2w:=(hbel.cell (p:=⟨g,off+k*2+1,none⟩) hg).trans c2
  have HT1:Hid (textsL (l.take (k+1))=textsL (l.take k)++(l.getD k tv0).s.data.toList):=take_tok hlt
  have hsz:(textsL (l.take k)).length+(l.getD k tv0).s.size≤16777216:=by
   have h1:=texts_take l (k+1)
   rw[HT1.out,List.length_append]at h1
   have h2:(l.getD k tv0).s.data.toList.length=(l.getD k tv0).s.size:=by simp
   omega
  clear c1 c2
  generalize (l.getD k tv0).s=x at*
  generalize textsL (l.take k)=T0 at*
  obtain ⟨U,hU⟩: ∃U,U=wr.alloc (.cells #[.int .i64 3,.string x] 74):=⟨_,rfl⟩
  have bU:Below wr.heap.size wr U:=by rw[hU];exact (Below.refl _ _).alloc (Nat.le_refl _) _
  have AU:BAt U wr.heap.size [.int .i64 3,.string x]:=by rw[hU];exact BAt.new wr #[.int .i64 3,.string x] _
  have BU:Below w.heap.size w U:=hbel.trans (bU.mono hbel.size)
  have HBU:Hid (Bld B T0 U):=HB.out.below bU
  have d0:=AU.1 0 _ rfl
  have d1:=AU.1 1 _ rfl
  go_upto_region 5 with fail
  rw[←hU]
  clear hU c1w c2w bU hbel HB AU
  generalize wr.heap.size=D at*
  go_wp2_with (go_at_call 43;refine (implInsist _ _).mono ?_;rintro e w' ⟨rfl,rfl⟩)
  refine (bldWrite B T0 x _ (by omega) HBU.out).mono ?_
  rintro e w2 ⟨rfl,HB2,b2,_⟩
  have HN2:Hid (Bld B (textsL (l.take (k+1))) w2):=by
   rw[HT1.out]
   exact HB2
  have B2:=BU.trans (b2.mono hwB)
  clear HB2 b2 BU HBU d0 d1
  go_wp2_with fail
  go_roundw
  case rel=>exact ⟨k+1,by omega,by go_num,HN2,B2⟩
  case measure=>simp[intOf]<;>omega
 have hki: ¬(k:Int)<l.length:=by omega
 have HBF:Hid (Bld B (textsL l) wr):=by
  rw[List.take_of_length_le (show l.length≤k by omega)]at HB
  exact HB
 clear HB
 have zT:(⟨(textsL l).toArray⟩:ByteArray).size≤16777216:=by show (textsL l).toArray.size≤_;rw[List.size_toArray];exact hz
 have CT:=hidB (fun W=>implTrim ⟨(textsL l).toArray⟩ W (by omega))
 rw[show (⟨(textsL l).toArray⟩:ByteArray).data.toList=textsL l from rfl,HT.out]at CT
 go_wp2_with fail
 refine (bldString B (textsL l) _ HBF.out).mono ?_
 rintro e w1 ⟨rfl,b1⟩
 have B1:=hbel.trans (b1.mono hwB)
 clear HBF HT
 generalize (⟨(textsL l).toArray⟩:ByteArray)=TV at*
 go_wp2_with fail
 refine (CT.out _).mono ?_
 rintro e w2 ⟨rfl,b2⟩
 go_wp2_with fail
 go_ret
 exact ⟨rfl,B1.trans (b2.mono B1.size)⟩
theorem implReadPriority(ps:List ByteArray)(v:Value)(k:Int)(w:World)(hz: ∀p∈ps,p.size≤16777216)(h:StrRow w v ps)(hk:prioE ps=.ok k):
  Calls Tryz.prog 81 #[v] w fun e w'=>e=.returned (.int .i64 k)∧Below w.heap.size w w':=by
 match ps,h,hk with
 |[],.inl ⟨_,ao,cap,hv⟩,hk=>
  subst hv
  unfold prioE at hk
  injection hk with hk
  subst hk
  go_enter Tryz.func81,Tryz.ntmps81
  go_wp2_with fail
  go_ret
  exact ⟨rfl,Below.refl _ _⟩
 |[],.inr ⟨h0,_⟩,_=>exact absurd h0 (Nat.not_lt_zero _)
 |p::ps,.inl ⟨h0,_⟩,_=>cases h0
 |p::ps,.inr ⟨_,g,off,cap,hv,hg,hc⟩,hk=>
  subst hv
  have c0:=hc 0 (by simp)
  rw[Nat.add_zero,show (p::ps).getD 0 ByteArray.empty=p from rfl]at c0
  have CP:=hidB (implParsePriority p w (hz p List.mem_cons_self))
  unfold prioE at hk
  dsimp only at hk
  cases hq:prioR p.data.toList with
  |none=>rw[hq]at hk;cases hk
  |some n=>
   rw[hq]at hk CP
   injection hk with hk
   subst hk
   have hl0: ¬((p::ps).length:Int)=0:=by simp only[List.length_cons];omega
   have hl1:(0:Int)<((p::ps).length:Int):=by simp only[List.length_cons];omega
   clear hc hz hq
   generalize (p::ps).length=L at*
   go_enter Tryz.func81,Tryz.ntmps81
   go_wp2_with fail
   refine CP.out.mono ?_
   rintro e w1 ⟨rfl,b1⟩
   rw[show numA (some n)=.tuple #[.int .i64 n,.bool true] from rfl]
   go_wp2_with (go_at_call 43;refine (implInsist _ _).mono ?_;rintro e w' ⟨rfl,rfl⟩)
   go_ret
   exact ⟨rfl,b1⟩
end Go.Proofs.YtfdgehlobbeomaaGreatDoor
namespace Go.Proofs.YtfdgehlobbeomaaGreatDoor
open Go.RowKit
end Go.Proofs.YtfdgehlobbeomaaGreatDoor
namespace Go.Proofs.YtfdgehlobbeomaaGreatDoor
open Go.RowKit
set_option linter.unusedVariables false
theorem StrRow.grown{w w':World}{v:Value}{l:List ByteArray}{B:Nat}(h:StrRow w v l)(hg:w.grownBy w' (some B))(hne:v.ownBlock≠some B):StrRow w' v l:=by
 rcases h with h|⟨h0,g,off,cap,rfl,h2,h3⟩
 ·exact .inl h
 have hgB:some g≠some B:=fun e=>hne e
 refine .inr ⟨h0,g,off,cap,rfl,Nat.lt_of_lt_of_le h2 hg.size,fun i hi=>hg.cell (a:=⟨g,off+i,none⟩) (h3 i hi) hgB⟩
theorem ent_result1{fn:Func}{q:Tmp}(h:fn.results= #[.cell q 32])(tmps:Array Value)(W:World)(B:Nat)(a b:Value)
  (hp:tmps[q]?.getD undef=.pointer (some ⟨B,0,none⟩)) (ha:BAt W B [a,b]):(results fn tmps).run Tryz.prog W=.ok (.agg #[a,b]) W:=by
 have c0:=ha.1 0 _ rfl
 have c1:=ha.1 1 _ rfl
 simp[results,h,hp,asAddr,go_sem,c0,c1,Addr.add_lit]
theorem Tryz.infoEnt:(Tryz.prog.info? 32).map (fun i=>(i.zero,i.size,i.bytes))=some (some (.agg #[.string ⟨#[]⟩,.int .i64 0]),2,24):=by kernel_rfl
end Go.Proofs.YtfdgehlobbeomaaGreatDoor
namespace Go.Proofs.YtfdgehlobbeomaaGreatDoor
open Go.RowKit
theorem wpList_append_newAt{P:Program}(wr:World){ops:Array Oper}{rest:List Oper}{o:Oper}{a:Act}{Q:Exit→Act→World→Prop}
  (hg:o.guard=none) (s x:Operand) (t:TypeId) (hop:o.op=.call {callee:=.builtin .append,args:= #[s,x],argTypes:= #[t,t]})
  (B:Nat) (e:TypeId) (z:Value) (bytes:Nat) (ht:P.underlying t=some (.slice e)) (hinfo:(P.info? e).map (fun i=>(i.zero,i.size,i.bytes))=some (some z,1,bytes)) (hz:z.cells.size=1)
  (v:Value) (n:Nat) (xs:List Value) (hs:a.eval s=v) (hown:wr.ownsRow B e 1 v n xs)
  (cs:Array Value) (m:Nat) (hm:cs.size=m) (hx:a.eval x=.slice (some ⟨wr.heap.size,0,none⟩) m m) (h1: ∀u∈cs.toList,u.oneCell'=true)
  (hroom:(n+m)*bytes≤140737488355328) (hroom':n+m≤maxLen) (hB:B≤wr.heap.size)
  (hK: ∀v' w1,w1.ownsRow B e 1 v' (n+m) (xs++cs.toList)→wr.grownBy w1 v.ownBlock→(v'.ownBlock=v.ownBlock∨v'.ownBlock=some (wr.heap.size+1))→wpList P ops Q rest (a.put o.dst v') w1):
  wpList P ops Q (o::rest) a (wr.alloc (.cells cs e)):=by
 obtain ⟨i0,hi,hz0,hz1,hz2⟩:=info_parts hinfo
 refine wpList_append_own_at (wr.alloc (.cells cs e)) hg s x t hop B e i0 z 1 bytes ht hi hz0 hz1 hz2 hz (by decide) v n xs hs (hown.alloc _) ⟨wr.heap.size,0,none⟩ m m cs.toList hx (by simp[hm]) ?_ h1 hroom' hroom (by simp;omega) ?_
 ·intro j u hj
  rw[Addr.add_lit,Nat.zero_add]
  rw[World.cell?_alloc_at _ _ _ _ rfl]
  simpa using hj
 intro v' w1 h1 h2 _ h4
 refine hK v' w1 h1 ⟨h2.os,h2.tape,h2.output,?_,fun k hk hne=>(h2.block k (by simp;omega) hne).trans (Below.heap_alloc wr _ k hk)⟩ (by simpa using h4)
 have:=h2.size
 simp at this
 omega
theorem own_base{w:World}{B B':Nat}{e:TypeId}{size:Nat}{v:Value}{n:Nat}{xs:List Value}(h:w.ownsRow B e size v n xs)(hb:B'≤B):w.ownsRow B' e size v n xs:=
 ⟨h.1,h.2.imp id fun ⟨g,cap,cur,h1,h2,h3⟩=>⟨g,cap,cur,h1,Nat.le_trans hb h2,h3⟩⟩
end Go.Proofs.YtfdgehlobbeomaaGreatDoor
