/- TokIter. -/
import Derived.Test.YtfdgehlobbeomaaGreatDoorQM21
import Derived.RangeFuncNested
import Derived.RangeFuncBound
import Derived.RangeFuncCalls
import Derived.RangeFuncLeaves
import Derived.RangeFuncBox
import Derived.Shelf.Abstract
import Derived.Shelf.RegionOpen
import Derived.OwnWalkIn
import Derived.TacticsInMore
import Derived.LoopNIn
import Derived.LoopIn
import Derived.Maps.OwnIn
set_option maxHeartbeats 4000000
set_option maxRecDepth 100000
namespace Go.Proofs.YtfdgehlobbeomaaGreatDoor
open Go.RowKit Go.Shelf
attribute [local go_sem] Oper.semAt_some
set_option linter.unusedVariables false
set_option linter.unusedSimpArgs false
abbrev TX:=TV×Int
def encT(x:TX):Array Value:= #[.agg #[.int .i64 x.1.k,.string x.1.s],.int .i64 x.2]
def goods(l:List TV):List TX:=l.map fun t=>(t,0)
theorem goods_snoc(l:List TV)(t:TV):goods l++[(t,0)]=goods (l++[t]):=by unfold goods;simp
theorem goods_len(l:List TV):(goods l).length=l.length:=by unfold goods;simp
def NotRow(b:Nat)(W:World)(g:Nat):Prop:= ∀v,W.cell? ⟨b,0,none⟩=some v→v.ownBlock≠some g
def RowIn(b:Nat)(W:World):Prop:= ∀v k,W.cell? ⟨b,0,none⟩=some v→v.ownBlock=some k→k<W.heap.size
def IsC(W:World)(g:Nat):Prop:= ∃o:Obj,W.heap[g]? =some o∧o.isCells=true
def KpT(B L b:Nat)(W W':World):Prop:=Below B W W'∧(RowIn b W→RowIn b W'∧ ∀g,L≤g→IsC W g→NotRow b W g→(W'.heap[g]? =W.heap[g]? ∧NotRow b W' g))
theorem IsC.lt{W:World}{g:Nat}(h:IsC W g):g<W.heap.size:=by
 obtain ⟨o,h1,_⟩:=h
 exact (Array.getElem?_eq_some_iff.1 h1).1
theorem kpT_t{B L b:Nat}{X Y Z:World}(h:KpT B L b X Y)(k:KpT B L b Y Z):KpT B L b X Z:=by
 refine ⟨h.1.trans k.1,fun hr=> ?_⟩
 obtain ⟨r1,h1⟩:=h.2 hr
 obtain ⟨r2,h2⟩:=k.2 r1
 refine ⟨r2,fun g hg hc hn=> ?_⟩
 obtain ⟨e1,n1⟩:=h1 g hg hc hn
 obtain ⟨o,ho,hoc⟩:=hc
 obtain ⟨e2,n2⟩:=h2 g hg ⟨o,e1.trans ho,hoc⟩ n1
 exact ⟨e2.trans e1,n2⟩
theorem kpT_below{B L b:Nat}{W W':World}(hB:B≤W.heap.size)(hb:b<W.heap.size)(h:Below W.heap.size W W'):KpT B L b W W':=by
 have hc:W'.cell? ⟨b,0,none⟩=W.cell? ⟨b,0,none⟩:=h.cell (p:=⟨b,0,none⟩) hb
 refine ⟨h.mono hB,fun hr=>⟨fun v k hv hk=> ?_,fun g hg hcs hn=>⟨h.block g hcs.lt,fun v hv=>hn v (hc▸hv)⟩⟩⟩
 have:=hr v k (hc▸hv) hk
 have:=h.size
 omega
theorem kpT_b{B L b:Nat}{w:World}(hn:B≤w.heap.size)(hb:b<w.heap.size)(W:World)(l:Nat)(o o':Obj)(hl:w.heap.size≤l)(h:W.heap[l]? =some o)(ho:o.isCells=false)(hw:o.isWalk=false):KpT B L b W (W.putObj l o'):=by
 have hg:=grownBy_putObj' W l o'
 have hlt:=(Array.getElem?_eq_some_iff.1 h).1
 have hc:(W.putObj l o').cell? ⟨b,0,none⟩=W.cell? ⟨b,0,none⟩:=World.cell?_of_block (a:=⟨b,0,none⟩) (hg.block b (by omega) (fun e=>by injection e with e;omega))
 refine ⟨belowK_b hn W l o o' hl h ho hw,fun hr=>⟨fun v k hv hk=> ?_,fun g hg1 hcs hn1=>⟨hg.block g hcs.lt (fun e=> ?_),fun v hv=>hn1 v (hc▸hv)⟩⟩⟩
 ·have:=hr v k (hc▸hv) hk
  have:=hg.size
  omega
 injection e with e
 obtain ⟨o2,h2,h3⟩:=hcs
 rw[e,h]at h2
 cases h2
 rw[ho]at h3
 cases h3
def FaultL(r:List UInt8)(xs:List TX):Prop:= ∃(l:List TV) (c:Nat),xs=goods l++[(tv0,(c:Int))]∧c≠0∧tokH [] r=([],c)
def AllT(r:List UInt8)(xs:List TX):Prop:=(∃l,xs=goods l∧tokH [] r=(l,0))∨FaultL r xs
def PartT(r:List UInt8)(xs:List TX):Prop:=(∃l,xs=goods l)∨FaultL r xs
theorem grow_none{W W':World}(b:Below W.heap.size W W'):W.grownBy W' none:=⟨b.os,b.tape,b.output,b.size,fun k hk _=>b.block k hk⟩
theorem stepI_two{r:List UInt8}(h:(stepI r).code=0):(stepI r).ts.length≤2:=by
 have e:=stepI_back h
 rw[e]at h⊢
 exact step_two _ h
theorem implTokensOf(n:Nat)(s:ByteArray)(w:World):
  CallsIn Fence.wide n Tryz.prog 77 #[.string s] w fun e w'=>e=.returned (.func (.func 89) #[] #[.pointer (some ⟨w.heap.size,0,none⟩)])∧w'=w.alloc (.cells #[.string s] 9):=by
 refine callsIn_of_wp Tryz.func77 rfl trivial ?_ rfl
 simp only[Tryz.ntmps77,List.size_toArray,List.length_cons,List.length_nil,Nat.reduceAdd,Nat.reduceSub,Array.replicate_succ,Array.replicate_zero,List.push_toArray,List.append_toArray,List.nil_append,List.cons_append]
 gi_wp2
 go_ret
 exact ⟨rfl,rfl⟩
theorem implTokensOf1(n:Nat)(hn:1≤n)(Bs B L b:Nat)(s:ByteArray)(w:World)(hs:s.size≤16777216)(hE:Esc w)(hM:MaxI w)(hB:B≤w.heap.size)(hL:L≤w.heap.size)(hEB:0<B)(hMB:1<B)(hb:b<w.heap.size)(hr:RowIn b w)(hBs:w.cell? ⟨Bs,0,none⟩=some (.string s))(hBl:Bs<w.heap.size):
  SeqStopsK Fence.wide n Tryz.prog 89 #[.pointer (some ⟨Bs,0,none⟩)] encT (KpT B L b) (AllT s.data.toList) (PartT s.data.toList) (2*s.size+2) w:=fun l J Jx W hW hJ hJx hY h0=>by
 have HY:Hid (∀pre x W1,J pre W1→pre.length<2*s.size+2→YieldAt Fence.wide (n-1) Tryz.prog l (encT x) W1 fun e W'=>(e=.returned (.bool true)∧J (pre++[x]) W'∧KpT B L b W1 W')∨(e=.returned (.bool false)∧Jx (pre++[x]) W')):=hY
 have HJ:Hid (∀pre W1 W2,J pre W1→Below W1.heap.size W1 W2→J pre W2):=fun pre W1 W2 h hb=>hJ pre W1 W2 none h (grow_none hb) (fun r e=>by cases e)
 have HRP:Hid (∀(y:ByteArray) (W1:World),y.size≤s.size→Below B w W1→Calls Tryz.prog 90 #[.string y] W1 fun e w'=>PieceA W1 (stepI y.data.toList) y.data.toList e w'):=fun y W1 hy hW1=>implReadPiece y W1 (by omega) (hE.below hEB hW1) (by
  obtain ⟨m,hm⟩:=hM
  exact ⟨m,(hW1.cell (p:=⟨1,0,none⟩) hMB).trans hm⟩)
 have hc0:W.cell? ⟨Bs,0,none⟩=some (.string s):=(hW.cell (p:=⟨Bs,0,none⟩) hBl).trans hBs
 have BW:Below B w W:=hW.mono hB
 have RW:Hid (RowIn b W):=fun v k hv hk=>by
  rw[hW.cell (p:=⟨b,0,none⟩) hb]at hv
  have:=hr v k hv hk
  have:=hW.size
  omega
 have hWs:=hW.size
 clear hY hJ hJx hE hM hW hr hBs
 refine callsIn_of_wp Tryz.func89 rfl trivial ?_ rfl
 simp only[Tryz.ntmps89,List.size_toArray,List.length_cons,List.length_nil,Nat.reduceAdd,Nat.reduceSub,Array.replicate_succ,Array.replicate_zero,List.push_toArray,List.append_toArray,List.nil_append,List.cons_append]
 gi_wp2
 gi_loopw [3] (fun p wr=> ∃(y:ByteArray) (acc:List TV),p=.string y∧y.size≤s.size∧acc.length+2*y.size≤2*s.size∧Hid (tokH [] s.data.toList=tokH acc y.data.toList)∧J (goods acc) wr∧Below B w wr∧Hid (RowIn b wr)∧w.heap.size≤wr.heap.size) (fun p _=>match p with| .string y=>y.size|_=>0)
 case atStart=>exact ⟨s,[],rfl,Nat.le_refl _,by simp,rfl,h0,BW,RW,hWs⟩
 obtain ⟨y,acc,rfl,hy,hacc,HT,hJ1,hB1,RI,hsz⟩:=hrel
 by_cases hy0:y.size=0
 ·have hem:=empty_yes hy0
  have HF:Hid (tokH [] s.data.toList=(acc,0)):=by
   show _=_
   rw[HT.out,List.eq_nil_of_length_eq_zero (l:=y.data.toList) (by simpa using hy0),tokH_nil]
  gi_wp2
  go_end0
  exact ⟨⟨_,rfl⟩,.inl ⟨_,.inl ⟨acc,rfl,HF.out⟩,hJ1⟩⟩
 have hem:=empty_no (Nat.pos_of_ne_zero hy0)
 have hne:y.data.toList≠[]:=fun e=>hy0 ((show y.size=y.data.toList.length by simp).trans (by rw[e];rfl))
 have hyl:y.data.toList.length=y.size:=by simp
 obtain ⟨m,hm⟩: ∃m,stepI y.data.toList=m:=⟨_,rfl⟩
 have hRP:=HRP.out y wr hy hB1
 rw[hm]at hRP
 have CP:=hidU hRP
 have HBad:Hid (m.code≠0→tokH [] s.data.toList=([],m.code)):=fun hc=>by
  rw[HT.out,←hm]
  exact tokH_bad hne (by rw[hm];exact hc)
 have HGood:Hid (m.code=0→tokH [] s.data.toList=tokH (acc++m.ts) (y.data.toList.drop m.n)∧m.ts.length≤2∧1≤m.n∧m.n≤y.size):=fun hc=>by
  have h1:=stepI_le hne (by rw[hm];exact hc)
  have h2:=stepI_two (r:=y.data.toList) (by rw[hm];exact hc)
  have h3:=tokH_next (acc:=acc) hne (by rw[hm];exact hc)
  rw[hm]at h1 h2 h3
  exact ⟨by rw[HT.out,h3],h2,h1.1,by omega⟩
 have hbw:b<wr.heap.size:=by omega
 clear hRP hm hne hyl HT hy0 HRP
 gi_wp2_with fail
 refine ⟨trivial,?_⟩
 refine (callsIn_wide.2 CP.out).mono ?_
 rintro e w1 ⟨v,z,rfl,o1,hz,b1⟩
 have B1:Below B w w1:=hB1.trans (b1.mono (by omega))
 have J1:=HJ.out _ _ _ hJ1 b1
 have K1:=kpT_below (B:=B) (L:=L) (b:=b) (by omega) hbw b1
 have R1:Hid (RowIn b w1):=(K1.2 RI.out).1
 have hs1:=b1.size
 have hcb:w1.cell? ⟨b,0,none⟩=wr.cell? ⟨b,0,none⟩:=b1.cell (p:=⟨b,0,none⟩) hbw
 have HNR:Hid (∀g,wr.heap.size≤g→NotRow b w1 g):=fun g hg v hv e=>by
  rw[hcb]at hv
  have:=RI.out v g hv e
  omega
 have HZ:=hidU hz
 have O1:=hidU o1
 clear K1 b1 hcb hz o1 hJ1 RI CP hB1
 by_cases hc:m.code=0
 ·obtain ⟨g1,g2,g3,g4⟩:=HGood.out hc
  have HG1:=hidU g1
  have HZ2:Hid (z.data.toList=y.data.toList.drop m.n):=HZ.out hc
  have hzs:z.size+m.n=y.size:=by
   have h1:=congrArg List.length HZ2.out
   rw[List.length_drop]at h1
   have h2:z.data.toList.length=z.size:=by simp
   have h3:y.data.toList.length=y.size:=by simp
   omega
  rw[hc]
  clear g1 HGood HBad HZ hc
  generalize m.n=mn at*
  generalize m.ts=T at*
  by_cases hT0:T.length=0
  ·obtain rfl:T=[]:=List.eq_nil_of_length_eq_zero hT0
   rw[List.append_nil]at HG1
   obtain ⟨ao,cp,rfl⟩: ∃ao cp,v=.slice ao 0 cp:=by
    rcases O1.out.2 with ⟨rfl,_⟩|⟨g,cap,cur,rfl,_⟩
    ·exact ⟨_,_,rfl⟩
    exact ⟨_,_,rfl⟩
   have HG2:Hid (tokH [] s.data.toList=tokH acc z.data.toList):=by show _=_;rw[HG1.out,HZ2.out]
   clear O1 HG1 HZ2 hT0 HY
   gi_wp2_with fail
   refine wpIn_loop_rounds 1 ?_
   rw[roundsIn_succ]
   gi_wp2_with fail
   go_roundw
   case rel=>exact ⟨z,acc,rfl,by omega,by omega,HG2,J1,B1,R1,by omega⟩
   case measure=>show z.size<y.size;omega
  obtain ⟨g,cp,cur,rfl,hgB,hgh⟩: ∃g cp cur,v=.slice (some ⟨g,0,none⟩) T.length cp∧wr.heap.size≤g∧w1.heap[g]? =some (.cells cur 74 (0,0)):=by
   rcases O1.out.2 with ⟨_,h⟩|⟨g,cap,cur,h1,h2,h3,_⟩
   ·exact absurd h hT0
   exact ⟨g,cap,cur,h1,h2,h3⟩
  have HCells:Hid (∀k,k<T.length→w1.cell? ⟨g,k*2,none⟩=some (.int .i64 (T.getD k tv0).k)∧w1.cell? ⟨g,k*2+1,none⟩=some (.string (T.getD k tv0).s)):=fun k hk=>by
   obtain ⟨e1,e2⟩:=tcells_at T k hk
   exact ⟨(O1.out.cellAt (k*2) (by omega)).trans e1,(O1.out.cellAt (k*2+1) (by omega)).trans e2⟩
  have HGC:Hid (∀W2:World,W2.heap[g]? =w1.heap[g]? →IsC W2 g):=fun W2 h=>⟨_,h.trans hgh,rfl⟩
  have N1:Hid (NotRow b w1 g):=HNR.out g hgB
  have HG2:Hid (tokH [] s.data.toList=tokH (acc++T) z.data.toList):=by show _=_;rw[HG1.out,HZ2.out]
  have HTL:Hid (0<T.length):=by show _<_;omega
  clear O1 HG1 HZ2 HNR hgh hT0
  gi_wp2_with fail
  generalize wr.heap.size=D0 at*
  gi_loopw [26] (fun i wx=> ∃k:Nat,k≤T.length∧i=.int .i64 (k:Int)∧J (goods (acc++T.take k)) wx∧Below B w wx∧Hid (RowIn b wx)∧w1.heap.size≤wx.heap.size∧Hid (wx.heap[g]? =w1.heap[g]?)∧Hid (NotRow b wx g)) (fun i _=>T.length-(intOf i).toNat)
  case atStart=>exact ⟨0,Nat.zero_le _,rfl,by rw[List.take_zero,List.append_nil];exact J1,B1,R1,Nat.le_refl _,rfl,N1⟩
  obtain ⟨k,hk,rfl,hJx1,hBx,Rx,hsx,HSame,Nx⟩:=hrel
  by_cases hlt:k<T.length
  ·have hki:(k:Int)<T.length:=by omega
   obtain ⟨c1,c2⟩:=HCells.out k hlt
   have c1w:=(World.cell?_of_block (a:=⟨g,k*2,none⟩) HSame.out).trans c1
   have c2w:=(World.cell?_of_block (a:=⟨g,k*2+1,none⟩) HSame.out).trans c2
   have HTk:Hid (acc++T.take k++[T.getD k tv0]=acc++T.take (k+1)):=by
    show _=_
    rw[List.append_assoc,List.take_add_one,List.getD_eq_getElem?_getD,List.getElem?_eq_getElem hlt]
    rfl
   obtain ⟨t,ht⟩: ∃t,T.getD k tv0=t:=⟨_,rfl⟩
   rw[ht]at c1w c2w HTk
   clear c1 c2 ht
   obtain ⟨U,hU⟩: ∃U,U=wr.alloc (.cells #[.int .i64 t.k,.string t.s] 74):=⟨_,rfl⟩
   have bU:Below wr.heap.size wr U:=by rw[hU];exact (Below.refl _ _).alloc (Nat.le_refl _) _
   have d0:U.cell? ⟨wr.heap.size,0,none⟩=some (.int .i64 t.k):=by rw[hU,World.cell?_alloc_at _ _ _ _ rfl];rfl
   have d1:U.cell? ⟨wr.heap.size,1,none⟩=some (.string t.s):=by rw[hU,World.cell?_alloc_at _ _ _ _ rfl];rfl
   have JU:=HJ.out _ _ _ hJx1 bU
   have KU:=kpT_below (B:=B) (L:=L) (b:=b) (by omega) (by omega) bU
   have hlen:(goods (acc++T.take k)).length<2*s.size+2:=by
    rw[goods_len,List.length_append,List.length_take]
    omega
   obtain ⟨fn,tmps,assign,body,hyy,hR⟩:=(show YieldAt Fence.wide (n-1) Tryz.prog l #[.agg #[.int .i64 t.k,.string t.s],.int .i64 0] U _ from HY.out (goods (acc++T.take k)) (t,0) U JU hlen)
   have HAft:Hid (∀W3,KpT B L b U W3→Below B w W3∧RowIn b W3∧w1.heap.size≤W3.heap.size∧W3.heap[g]? =w1.heap[g]? ∧NotRow b W3 g):=fun W3 hk3=>by
    have hKK:=kpT_t KU hk3
    obtain ⟨r1,r2⟩:=hKK.2 Rx.out
    obtain ⟨q1,q2⟩:=r2 g (by omega) (HGC.out wr HSame.out) Nx.out
    have:=hKK.1.size
    exact ⟨hBx.trans hKK.1,r1,by omega,q1.trans HSame.out,q2⟩
   subst hU
   clear bU JU KU
   gi_wp2_with fail
   refine hR.mono ?_
   rintro e W3 (⟨rfl,hJ3,hk3⟩|⟨rfl,hJx3⟩)
   ·obtain ⟨q1,q2,q3,q4,q5⟩:=HAft.out W3 hk3
    rw[goods_snoc,HTk.out]at hJ3
    gi_wp2_with fail
    go_roundw
    case rel=>exact ⟨k+1,by omega,by go_num,hJ3,q1,q2,q3,q4,q5⟩
    case measure=>simp[intOf]<;>omega
   rw[goods_snoc,HTk.out]at hJx3
   gi_wp2_with fail
   refine bodyPost_ret (results_none rfl _ _ _) rfl ?_
   exact ⟨⟨_,rfl⟩,.inr ⟨_,.inl ⟨_,rfl⟩,hJx3⟩⟩
  have hki: ¬(k:Int)<T.length:=by omega
  obtain rfl:k=T.length:=by omega
  rw[List.take_length]at hJx1
  clear HY HCells
  gi_wp2_with fail
  go_roundw
  case rel=>exact ⟨z,acc++T,rfl,by omega,by rw[List.length_append];omega,HG2,hJx1,hBx,Rx,by omega⟩
  case measure=>show z.size<y.size;omega
 have hci:((m.code:Int) !=0)=true:=bne_iff_ne.2 (by omega)
 have HF:=hidU (HBad.out hc)
 obtain ⟨fn,tmps,assign,body,hyy,hR⟩:=(show YieldAt Fence.wide (n-1) Tryz.prog l #[.agg #[.int .i64 0,.string ⟨#[]⟩],.int .i64 (m.code:Int)] w1 _ from HY.out (goods acc) (tv0,(m.code:Int)) w1 J1 (by rw[goods_len];omega))
 have HC:=hidU hc
 clear HBad HGood HZ O1 hc
 generalize m.code=mc at*
 gi_wp2_with fail
 refine hR.mono ?_
 rintro e W3 (⟨rfl,hJ3,hk3⟩|⟨rfl,hJx3⟩)
 ·gi_wp2
  refine bodyPost_ret (results_none rfl _ _ _) rfl ?_
  exact ⟨⟨_,rfl⟩,.inl ⟨_,.inr ⟨acc,mc,rfl,HC.out,HF.out⟩,hJ3⟩⟩
 gi_wp2
 refine bodyPost_ret (results_none rfl _ _ _) rfl ?_
 exact ⟨⟨_,rfl⟩,.inr ⟨_,.inr ⟨acc,mc,rfl,HC.out,HF.out⟩,hJx3⟩⟩
end Go.Proofs.YtfdgehlobbeomaaGreatDoor
