/- ParseAdd, DelImpl2. -/
import Derived.Maps.AppendAt
import Derived.Test.YtfdgehlobbeomaaGreatDoorQM08
set_option maxHeartbeats 4000000
set_option maxRecDepth 100000
namespace Go.Proofs.YtfdgehlobbeomaaGreatDoor
open Go.RowKit
theorem wpList_append_rule{P:Program}(wr:World){ops:Array Oper}{rest:List Oper}{o:Oper}{a:Act}{Q:Exit→Act→World→Prop}
  (hg:o.guard=none) (s x:Operand) (t:TypeId) (hop:o.op=.call {callee:=.builtin .append,args:= #[s,x],argTypes:= #[t,t]})
  (B:Nat) (e:TypeId) (z:Value) (bytes:Nat) (ht:P.underlying t=some (.slice e)) (hinfo:(P.info? e).map (fun i=>(i.zero,i.size,i.bytes))=some (some z,2,bytes)) (hz:z.cells.size=2)
  (v:Value) (n:Nat) (xs:List Value) (hs:a.eval s=v) (hown:wr.ownsRow B e 2 v n xs)
  (p q:Value) (hx:a.eval x=.slice (some ⟨wr.heap.size,0,none⟩) 1 1) (h1:p.oneCell'=true) (h2:q.oneCell'=true)
  (hroom:(n+1)*bytes≤140737488355328) (hroom':n+1≤maxLen) (hB:B≤wr.heap.size)
  (hK: ∀v' w1,w1.ownsRow B e 2 v' (n+1) (xs++[p,q])→wr.grownBy w1 v.ownBlock→(v'.ownBlock=v.ownBlock∨v'.ownBlock=some (wr.heap.size+1))→wpList P ops Q rest (a.put o.dst v') w1):
  wpList P ops Q (o::rest) a (wr.alloc (.cells #[p,q] e)):=by
 obtain ⟨i0,hi,hz0,hz1,hz2⟩:=info_parts hinfo
 refine wpList_append_own_at (wr.alloc (.cells #[p,q] e)) hg s x t hop B e i0 z 2 bytes ht hi hz0 hz1 hz2 hz (by decide) v n xs hs (hown.alloc _) ⟨wr.heap.size,0,none⟩ 1 1 [p,q] hx (by simp) ?_ ?_ hroom' hroom (by simp;omega) ?_
 ·intro j u hj
  rw[Addr.add_lit,Nat.zero_add]
  rw[World.cell?_alloc_at _ _ _ _ rfl]
  simpa using hj
 ·intro u hu
  simp at hu
  rcases hu with rfl|rfl
  ·exact h1
  exact h2
 intro v' w1 h1 h2 _ h4
 refine hK v' w1 h1 ⟨h2.os,h2.tape,h2.output,?_,fun k hk hne=>(h2.block k (by simp;omega) hne).trans (Below.heap_alloc wr _ k hk)⟩ (by simpa using h4)
 have:=h2.size
 simp at this
 omega
end Go.Proofs.YtfdgehlobbeomaaGreatDoor
namespace Go.Proofs.YtfdgehlobbeomaaGreatDoor
open Go.RowKit
set_option linter.unusedVariables false
set_option linter.unusedSimpArgs false
theorem below_setCells(g:Nat){B:Nat}(hB:B≤g){a:World}: ∀(vs:List Value) (o:Nat) {w:World},Below B a w→Below B a (w.setCells g o vs)
 |[],_,_,h=>h
 |v::r,o,w,h=>below_setCells g hB r (o+1) (h.setCell hB v)
theorem size_setCells(g:Nat): ∀(vs:List Value) (o:Nat) (w:World),(w.setCells g o vs).heap.size=w.heap.size
 |[],_,_=>rfl
 |v::r,o,w=>by rw[World.setCells,size_setCells g r];simp[World.setCell]
theorem run_clear_toks(w:World)(ty:TypeId)(b o n c:Nat)(hn:0<n)(hc: ∀j,j<n*2→(w.cell? ⟨b,o+j,none⟩).isSome=true)(hf: ∀j,w.frozen? ⟨b,j,none⟩=false):
  ∃vs:List Value,(Builtin.clear_ #[65] ty #[.slice (some ⟨b,o,none⟩) n c]).run Tryz.prog w=.ok (.tuple #[]) (w.setCells b o vs):=by
 have hzc:(Builtin.zeroCells #[Value.int .i64 0,Value.string ⟨#[]⟩] n).toList.length=n*2:=by simp[Builtin.zeroCells]
 have hz1: ∀v∈(Builtin.zeroCells #[Value.int .i64 0,Value.string ⟨#[]⟩] n).toList,v.oneCell'=true:=by
  intro v hv
  simp[Builtin.zeroCells]at hv
  obtain ⟨i,_,rfl⟩:=hv
  rcases Nat.mod_two_eq_zero_or_one i with h|h<;>simp[h]<;>rfl
 have hst:=run_storeCells_cells (P:=Tryz.prog) b o (Builtin.zeroCells #[Value.int .i64 0,Value.string ⟨#[]⟩] n).toList 0 w (by rw[hzc];simpa using hc) (by intro j _;exact hf _) hz1
 simp only[Nat.add_zero]at hst
 refine ⟨(Builtin.zeroCells #[Value.int .i64 0,Value.string ⟨#[]⟩] n).toList,?_⟩
 have hcl:(Value.agg #[Value.int .i64 0,Value.string ⟨#[]⟩]).cells= #[Value.int .i64 0,Value.string ⟨#[]⟩]:=rfl
 obtain ⟨m,rfl⟩: ∃m,n=m+1:=⟨n-1,by omega⟩
 simp[Builtin.clear_,run_underlying Tryz.underlying65,Tryz.zeroValue74,hcl,hst]
theorem toks_cell{w:World}{B g n cap:Nat}{d:List TV}(h:w.ownsRow B 74 2 (.slice (some ⟨g,0,none⟩) n cap) n (tcells d)){k:Nat}(hk:k<d.length):w.cell? ⟨g,k*2,none⟩=some (.int .i64 (d.getD k tv0).k)∧w.cell? ⟨g,k*2+1,none⟩=some (.string (d.getD k tv0).s):=by
 have hl:=h.1
 rw[tcells_length]at hl
 obtain ⟨h1,h2⟩:=tcells_at d k hk
 exact ⟨(h.cellAt (k*2) (by omega)).trans h1,(h.cellAt (k*2+1) (by omega)).trans h2⟩
theorem implDelete(l:List TV)(v:Value)(B:Nat)(w:World)(hl:l.length≤1048576)(hz: ∀t∈l,t.s.size≤16777216)(hB:B≤w.heap.size)(h:w.ownsRow B 74 2 v l.length (tcells l)):
  Calls Tryz.prog 61 #[v,.func (.func 62) #[] #[]] w fun e w'=>(∃v',e=.returned v'∧TokRow w' v' (l.filter fun t=> !blkT t))∧Below B w w':=by
 have HZ:Hid (∀t∈l,t.s.size≤16777216):=hz
 obtain ⟨ao,cap,rfl⟩:=(TokRow.of_own h (tcells_at l)).slice
 have HO:Hid (w.ownsRow B 74 2 (.slice ao l.length cap) l.length (tcells l)):=h
 have CI:=hidB (implIdxBlank l (.slice ao l.length cap) w hl hz (TokRow.of_own h (tcells_at l)))
 clear hz h
 go_enter Tryz.func61,Tryz.ntmps61
 go_wp2_with fail
 refine CI.out.mono ?_
 rintro e w1 ⟨(⟨rfl,hall⟩|⟨k0,hk0,rfl,hyes,hno⟩),b1⟩
 ·have HF:Hid (l.filter (fun t=> !blkT t)=l):=by
   have:=ki_filter (l:=l) (Nat.le_refl _) hall
   rwa[List.take_length]at this
  have HR:Hid (TokRow w1 (.slice ao l.length cap) (l.filter (fun t=> !blkT t))):=by
   show TokRow _ _ _
   rw[HF.out]
   exact (TokRow.of_own HO.out (tcells_at l)).below b1
  clear hall CI HF HO
  go_wp2_with fail
  go_ret
  exact ⟨⟨.slice ao l.length cap,rfl,HR.out⟩,b1.mono hB⟩
 obtain ⟨g,rfl⟩: ∃g,ao=some ⟨g,0,none⟩:=by
  rcases HO.out.2 with ⟨h0,h1⟩|⟨g,c,cur,h1,_⟩
  ·omega
  injection h1 with h1 _ _;exact ⟨g,h1⟩
 have O1:Hid (w1.ownsRow B 74 2 (.slice (some ⟨g,0,none⟩) l.length cap) l.length (tcells l)):=own_below HO.out b1
 have hgB:B≤g:=(O1.out.lt g rfl).1
 have B1:Below B w w1:=b1.mono hB
 have HK0:Hid (KI l k0 (k0+1) l):=KI.start hk0 hyes hno
 have hcap:l.length≤cap:=own_room O1.out
 have hne1:((k0:Int)== -1)=false:=beq_eq_false_iff_ne.2 (by omega)
 have hs1:=b1.size
 clear hyes hno CI HO b1
 go_wp2_with fail
 go_loopw[5,6] (fun a i wr=> ∃(i0 j0:Nat) (d:List TV),a=.int .i64 i0∧i=.int .i64 j0∧Hid (KI l i0 j0 d)∧Hid (wr.ownsRow B 74 2 (.slice (some ⟨g,0,none⟩) l.length cap) l.length (tcells d))∧Below B w wr) (fun _ i _=>l.length-(intOf i).toNat)
 case atStart=>exact ⟨k0,k0+1,l,rfl,by go_num,HK0,O1,B1⟩
 obtain ⟨i,j,d,rfl,rfl,HK,HO,hbel⟩:=hrel
 have hij:=HK.out.lt
 have hjl:=HK.out.le
 have hdl:=HK.out.len
 clear HK0 O1 B1
 by_cases hlt:j<l.length
 ·have hji:(j:Int)<l.length:=by omega
  obtain ⟨q1,q2⟩:=toks_cell HO.out (k:=j) (by omega)
  rw[HK.out.at hlt]at q1 q2
  have hz1:(l.getD j tv0).s.size≤16777216:=HZ.out _ (by
   rw[List.getD_eq_getElem?_getD,List.getElem?_eq_getElem hlt]
   exact List.getElem_mem _)
  have HY:Hid (blkT (l.getD j tv0)=true→KI l i (j+1) d):=fun h=>HK.out.skip hlt h
  have HN:Hid (blkT (l.getD j tv0)=false→KI l (i+1) (j+1) (d.set i (l.getD j tv0))):=fun h=>HK.out.keep hlt h
  have hwB:B≤wr.heap.size:=Nat.le_trans hB hbel.size
  clear HK
  generalize l.getD j tv0=x at*
  obtain ⟨U,hU⟩: ∃U,U=wr.alloc (.cells #[.int .i64 x.k,.string x.s] 74):=⟨_,rfl⟩
  have bU:Below wr.heap.size wr U:=by rw[hU];exact (Below.refl _ _).alloc (Nat.le_refl _) _
  have AU:BAt U wr.heap.size [.int .i64 x.k,.string x.s]:=by rw[hU];exact BAt.new wr #[.int .i64 x.k,.string x.s] _
  have OU:Hid (U.ownsRow B 74 2 (.slice (some ⟨g,0,none⟩) l.length cap) l.length (tcells d)):=own_below HO.out bU
  have BU:Below B w U:=hbel.trans (bU.mono hwB)
  have hgw:g<wr.heap.size:=(HO.out.lt g rfl).2
  go_upto_region 8 with fail
  rw[←hU]
  clear hU HO hbel q1 q2
  have d0:=AU.1 0 _ rfl
  have d1:=AU.1 1 _ rfl
  have hUs:=bU.size
  clear bU
  have CR:=hidB (implIsBlank x U hz1)
  generalize wr.heap.size=D at*
  go_wp2_with fail
  refine CR.out.mono ?_
  rintro e w2 ⟨rfl,b2⟩
  have A2:=AU.below b2
  have O2:Hid (w2.ownsRow B 74 2 (.slice (some ⟨g,0,none⟩) l.length cap) l.length (tcells d)):=own_below OU.out b2
  have B2:Below B w w2:=BU.trans (b2.mono (Nat.le_trans hwB hUs))
  clear CR AU OU BU b2 d0 d1
  have d0:=A2.1 0 _ rfl
  have d1:=A2.1 1 _ rfl
  cases hb:blkT x with
  |true=>
   have HK2:Hid (KI l i (j+1) d):=HY.out hb
   clear HY HN
   go_wp2_with fail
   go_roundw
   case rel=>exact ⟨i,j+1,d,rfl,by go_num,HK2,O2,B2⟩
   case measure=>simp[intOf]<;>omega
  |false=>
   have HK2:Hid (KI l (i+1) (j+1) (d.set i x)):=HN.out hb
   clear HY HN
   obtain ⟨r1,r2⟩:=toks_cell O2.out (k:=i) (by omega)
   have f1:=own_frozenN O2.out (i*2)
   have f2:=own_frozenN O2.out (i*2+1)
   have hil:(i:Int)<l.length:=by omega
   have O3:Hid (((w2.setCell ⟨g,i*2,none⟩ (.int .i64 x.k)).setCell ⟨g,i*2+1,none⟩ (.string x.s)).ownsRow B 74 2 (.slice (some ⟨g,0,none⟩) l.length cap) l.length (tcells (d.set i x))):=by
    have:=own_setN (own_setN O2.out (i*2) (.int .i64 x.k)) (i*2+1) (.string x.s)
    rwa[tcells_set d i (by omega) x]at this
   have B3:Below B w ((w2.setCell ⟨g,i*2,none⟩ (.int .i64 x.k)).setCell ⟨g,i*2+1,none⟩ (.string x.s)):=(B2.setCell hgB _).setCell hgB _
   clear O2 B2 A2
   go_wp2_with fail
   go_roundw
   case rel=>exact ⟨i+1,j+1,_,by go_num,by go_num,HK2,O3,B3⟩
   case measure=>simp[intOf]<;>omega
 obtain rfl:j=l.length:=by omega
 have hji: ¬(l.length:Int)<l.length:=by omega
 have HD:Hid (d.take i=l.filter (fun t=> !blkT t)):=HK.out.done
 have hil:i≤l.length:=by omega
 have hilz:(i:Int)≤l.length:=by omega
 have hfz: ∀k,wr.frozen? ⟨g,k,none⟩=false:=fun k=>own_frozenN HO.out k
 obtain ⟨vs,hcl⟩:=run_clear_toks wr 0 g (i*2) (l.length-i) (cap-i) (by omega) (fun k hk=>by
  rw[HO.out.cellAt (i*2+k) (by omega)]
  have:i*2+k<(tcells d).length:=by rw[tcells_length];omega
  rw[List.getElem?_eq_getElem this]
  rfl) hfz
 have hgw:g<wr.heap.size:=(HO.out.lt g rfl).2
 have HR:Hid (TokRow (wr.setCells g (i*2) vs) (.slice (some ⟨g,0,none⟩) i cap) (l.filter (fun t=> !blkT t))):=by
  show TokRow _ _ _
  rw[←HD.out]
  have hti:(d.take i).length=i:=by rw[List.length_take];omega
  by_cases hi0:i=0
  ·subst hi0
   exact .inl ⟨by simp,_,_,rfl⟩
  refine .inr ⟨by omega,g,0,cap-i,by rw[hti,Nat.add_sub_cancel' (by omega)],by rw[size_setCells];exact hgw,fun k hk=> ?_⟩
  rw[hti]at hk
  obtain ⟨e1,e2⟩:=toks_cell HO.out (k:=k) (by omega)
  have hgd:(d.take i).getD k tv0=d.getD k tv0:=by
   rw[List.getD_eq_getElem?_getD,List.getElem?_take,if_pos hk,List.getD_eq_getElem?_getD]
  rw[hgd,Nat.zero_add,World.cell?_setCells_out g vs (i*2) wr ⟨g,k*2,none⟩ (fun _ _=> .inl (by show k*2<_;omega)),World.cell?_setCells_out g vs (i*2) wr ⟨g,k*2+1,none⟩ (fun _ _=> .inl (by show k*2+1<_;omega))]
  exact ⟨e1,e2⟩
 have B3:Below B w (wr.setCells g (i*2) vs):=below_setCells g hgB vs _ hbel
 clear HK HD HO
 go_wp2_with fail
 go_ret
 exact ⟨⟨.slice (some ⟨g,0,none⟩) i cap,rfl,HR.out⟩,B3⟩
end Go.Proofs.YtfdgehlobbeomaaGreatDoor
