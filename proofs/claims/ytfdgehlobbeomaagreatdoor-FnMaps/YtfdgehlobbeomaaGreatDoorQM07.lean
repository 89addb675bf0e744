/- EntRow, PrioPlain, MapText, MapPlain, BlockAt. -/
import Derived.Test.YtfdgehlobbeomaaGreatDoorQM06
namespace Go.Proofs.YtfdgehlobbeomaaGreatDoor
open Go.RowKit
set_option linter.unusedVariables false
structure EV where
 k:Int
 s:ByteArray
def ev0:EV:=⟨0,ByteArray.empty⟩
def EntRow(w:World)(v:Value)(l:List EV):Prop:=
 (l=[]∧ ∃ao cap,v=.slice ao 0 cap)∨(0<l.length∧ ∃g off cap,v=.slice (some ⟨g,off,none⟩) l.length (l.length+cap)∧g<w.heap.size∧ ∀i,i<l.length→w.cell? ⟨g,off+i*2,none⟩=some (.string (l.getD i ev0).s)∧w.cell? ⟨g,off+i*2+1,none⟩=some (.int .i64 (l.getD i ev0).k))
theorem EntRow.same{w w':World}{v:Value}{l:List EV}(h:EntRow w v l)(hs:w.heap.size≤w'.heap.size)(hb: ∀k,k<w.heap.size→w'.heap[k]? =w.heap[k]?):EntRow w' v l:=by
 rcases h with h|⟨h0,g,off,cap,h1,h2,h3⟩
 ·exact .inl h
 exact .inr ⟨h0,g,off,cap,h1,by omega,fun i hi=>⟨(World.cell?_of_block (w:=w) (a:=⟨g,off+i*2,none⟩) (hb g h2)).trans (h3 i hi).1,(World.cell?_of_block (w:=w) (a:=⟨g,off+i*2+1,none⟩) (hb g h2)).trans (h3 i hi).2⟩⟩
theorem EntRow.below{w w':World}{v:Value}{l:List EV}(h:EntRow w v l)(hb:Below w.heap.size w w'):EntRow w' v l:=h.same hb.size hb.block
theorem EntRow.slice{w:World}{v:Value}{l:List EV}(h:EntRow w v l): ∃ao cap,v=.slice ao l.length cap:=by
 rcases h with ⟨rfl,ao,cap,rfl⟩|⟨_,g,off,cap,h1,_⟩
 ·exact ⟨ao,cap,rfl⟩
 exact ⟨_,_,h1⟩
theorem EntRow.of_own{w:World}{base:Nat}{e:TypeId}{v:Value}{l:List EV}{vs:List Value}(h:w.ownsRow base e 2 v l.length vs)
  (hin: ∀i,i<l.length→vs[i*2]? =some (.string (l.getD i ev0).s)∧vs[i*2+1]? =some (.int .i64 (l.getD i ev0).k)):EntRow w v l:=by
 by_cases h0:l.length=0
 ·have hl:l=[]:=List.eq_nil_of_length_eq_zero h0
  rw[h0]at h
  rcases h.2 with ⟨rfl,_⟩|⟨g,cap,cur,rfl,_⟩
  ·exact .inl ⟨hl,_,_,rfl⟩
  exact .inl ⟨hl,_,_,rfl⟩
 rcases h.2 with ⟨_,h1⟩|⟨g,cap,cur,rfl,_⟩
 ·exact absurd h1 h0
 refine .inr ⟨by omega,g,0,cap-l.length,by rw[Nat.add_sub_cancel' (own_room h)],(h.lt g rfl).2,fun i hi=> ?_⟩
 obtain ⟨h1,h2⟩:=hin i hi
 refine ⟨?_,?_⟩
 ·rw[Nat.zero_add,h.cellAt (i*2) (by omega)];exact h1
 rw[Nat.zero_add,h.cellAt (i*2+1) (by omega)];exact h2
def ecells(l:List EV):List Value:=l.flatMap fun x=>[.string x.s,.int .i64 x.k]
theorem ecells_append(l m:List EV):ecells (l++m)=ecells l++ecells m:=by unfold ecells;rw[List.flatMap_append]
theorem ecells_cons(x:EV)(l:List EV):ecells (x::l)=.string x.s::.int .i64 x.k::ecells l:=rfl
theorem ecells_at: ∀(l:List EV) (i:Nat),i<l.length→(ecells l)[i*2]? =some (.string (l.getD i ev0).s)∧(ecells l)[i*2+1]? =some (.int .i64 (l.getD i ev0).k)
 |[],i,h=>absurd h (Nat.not_lt_zero _)
 |x::l,0,_=>⟨rfl,rfl⟩
 |x::l,i+1,h=>by
  have:=ecells_at l i (by simpa using h)
  rw[ecells_cons,show (i+1)*2=i*2+1+1 by omega]
  exact this
theorem EntRow.of_own'{w:World}{base:Nat}{e:TypeId}{v:Value}{l:List EV}(h:w.ownsRow base e 2 v l.length (ecells l)):EntRow w v l:=EntRow.of_own h fun i hi=>ecells_at l i hi
def dgB(n:Nat):UInt8:=UInt8.ofNat (48+n)
def prioT(z:Int):List UInt8:=if 0≤z∧z≤1000 then [dgB (z.toNat/1000),46,dgB (z.toNat/100%10),dgB (z.toNat/10%10),dgB (z.toNat%10)]else []
theorem dgB_dig(n:Nat)(h:n<10):(dgB n).toNat=48+n:=by unfold dgB;simp;omega
theorem prioT_in{z:Int}(h0:0≤z)(h1:z≤1000):prioT z=[dgB (z.toNat/1000),46,dgB (z.toNat/100%10),dgB (z.toNat/10%10),dgB (z.toNat%10)]:=by unfold prioT;rw[if_pos ⟨h0,h1⟩]
theorem prioT_mem{z:Int}{c:UInt8}(h:c∈prioT z):c.toNat=46∨(48≤c.toNat∧c.toNat≤57):=by
 unfold prioT at h
 split at h
 ·rename_i hz
  have q1:=dgB_dig (z.toNat/1000) (by omega)
  have q2:=dgB_dig (z.toNat/100%10) (by omega)
  have q3:=dgB_dig (z.toNat/10%10) (by omega)
  have q4:=dgB_dig (z.toNat%10) (by omega)
  simp only[List.mem_cons,List.not_mem_nil,or_false]at h
  rcases h with rfl|rfl|rfl|rfl|rfl
  ·omega
  ·exact .inl rfl
  ·omega
  ·omega
  omega
 cases h
def nUrlset:List UInt8:=[117,114,108,115,101,116]
def nIndex:List UInt8:=[115,105,116,101,109,97,112,105,110,100,101,120]
def nUrl:List UInt8:=[117,114,108]
def nSitemap:List UInt8:=[115,105,116,101,109,97,112]
def nLoc:List UInt8:=[108,111,99]
def nPrio:List UInt8:=[112,114,105,111,114,105,116,121]
def rootN(b:Bool):List UInt8:=if b=true then nIndex else nUrlset
def entN(b:Bool):List UInt8:=if b=true then nSitemap else nUrl
def entT(b:Bool)(e:EV):List UInt8:=60::(entN b++62::60::(nLoc++62::(escL e.s.data.toList++60::47::(nLoc++62::60::(nPrio++62::(prioT e.k++60::47::(nPrio++62::60::47::(entN b++[62]))))))))
def entsT(b:Bool)(l:List EV):List UInt8:=l.flatMap (entT b)
def mapT(b:Bool)(l:List EV):List UInt8:=60::(rootN b++62::(entsT b l++60::47::(rootN b++[62])))
def entK(b:Bool)(e:EV):List TV:=[⟨1,bytesV (entN b)⟩,⟨1,bytesV nLoc⟩,⟨3,e.s⟩,⟨2,bytesV nLoc⟩,⟨1,bytesV nPrio⟩,⟨3,bytesV (prioT e.k)⟩,⟨2,bytesV nPrio⟩,⟨2,bytesV (entN b)⟩]
def entsK(b:Bool)(l:List EV):List TV:=l.flatMap (entK b)
def mapK(b:Bool)(l:List EV):List TV:=⟨1,bytesV (rootN b)⟩::(entsK b l++[⟨2,bytesV (rootN b)⟩])
def EntOk(e:EV):Prop:=0≤e.k∧e.k≤1000∧e.s.data.toList≠[]
theorem un_plain: ∀{p:List UInt8},38∉p→unF p=some p
 |[],_=>rfl
 |c::r,h=>by
  have hc:c≠38:=fun e=>h (by rw[e];exact List.mem_cons_self)
  rw[unF_byte hc,un_plain (fun e=>h (List.mem_cons_of_mem _ e))]
  rfl
theorem tokH_prio{acc:List TV}{z:Int}{x:List UInt8}(h0:0≤z)(h1:z≤1000):tokH acc (prioT z++60::x)=tokH (acc++[⟨3,bytesV (prioT z)⟩]) (60::x):=by
 refine tokH_txt (by rw[prioT_in h0 h1];simp) (fun h=> ?_) (un_plain fun h=> ?_)
 ·have:=prioT_mem h
  revert this
  decide
 have:=prioT_mem h
 revert this
 decide
theorem ok_ent(b:Bool):nameOkB (entN b)=true∧(entN b).all nmB=true:=by cases b<;>decide
theorem ok_root(b:Bool):nameOkB (rootN b)=true∧(rootN b).all nmB=true:=by cases b<;>decide
theorem ok_loc:nameOkB nLoc=true∧nLoc.all nmB=true:=by decide
theorem ok_prio:nameOkB nPrio=true∧nPrio.all nmB=true:=by decide
theorem mk_s(s:ByteArray):bytesV s.data.toList=s:=Lib.mk_data s
theorem tokH_ent{acc:List TV}{b:Bool}{e:EV}{x:List UInt8}(h:EntOk e):tokH acc (entT b e++x)=tokH (acc++entK b e) x:=by
 obtain ⟨h0,h1,h2⟩:=h
 have e1:entT b e++x=60::(entN b++62::(60::(nLoc++62::(escL e.s.data.toList++60::(47::(nLoc++62::(60::(nPrio++62::(prioT e.k++60::(47::(nPrio++62::(60::47::(entN b++62::x))))))))))))):=by
  unfold entT
  simp
 rw[e1,tokH_open (ok_ent b).1 (ok_ent b).2,tokH_open ok_loc.1 ok_loc.2,tokH_esc h2,tokH_close ok_loc.1 ok_loc.2,tokH_open ok_prio.1 ok_prio.2,tokH_prio h0 h1,tokH_close ok_prio.1 ok_prio.2,tokH_close (ok_ent b).1 (ok_ent b).2,mk_s]
 unfold entK
 simp
theorem tokH_ents{b:Bool}{x:List UInt8}: ∀(l:List EV) (acc:List TV),(∀e∈l,EntOk e)→tokH acc (entsT b l++x)=tokH (acc++entsK b l) x
 |[],acc,_=>by simp[entsT,entsK]
 |e::l,acc,h=>by
  have e1:entsT b (e::l)++x=entT b e++(entsT b l++x):=by unfold entsT;simp
  have e2:acc++entsK b (e::l)=acc++entK b e++entsK b l:=by unfold entsK;simp
  rw[e1,e2,tokH_ent (h e List.mem_cons_self),tokH_ents l _ (fun d hd=>h d (List.mem_cons_of_mem _ hd))]
theorem tokH_map{acc:List TV}{b:Bool}{l:List EV}{x:List UInt8}(h: ∀e∈l,EntOk e):tokH acc (mapT b l++x)=tokH (acc++mapK b l) x:=by
 have e1:mapT b l++x=60::(rootN b++62::(entsT b l++(60::47::(rootN b++62::x)))):=by unfold mapT;simp
 rw[e1,tokH_open (ok_root b).1 (ok_root b).2,tokH_ents l _ h,tokH_close (ok_root b).1 (ok_root b).2]
 unfold mapK
 simp
theorem mapK_len(b:Bool)(l:List EV):(mapK b l).length=8*l.length+2:=by
 have: ∀l:List EV,(entsK b l).length=8*l.length:=fun l=>by
  induction l with
  |nil=>rfl
  |cons e l ih=>
   unfold entsK at ih⊢
   rw[List.flatMap_cons,List.length_append,ih]
   show 8+_=_
   rw[List.length_cons]
   omega
 unfold mapK
 rw[List.length_cons,List.length_append,this]
 rfl
theorem toksI_map{b:Bool}{l:List EV}(h: ∀e∈l,EntOk e)(hl:l.length≤374):toksI (mapT b l)=(mapK b l,0):=by
 have e:=tokH_map (acc:=[]) (b:=b) (x:=[]) h
 rw[List.append_nil,List.nil_append,tokH_nil]at e
 unfold toksI endT
 rw[e,if_neg (by simp),if_neg (by rw[mapK_len];omega)]
def aheadX:List UInt8:=[60,63,120,109,108,63,62,10,60,33,45,45,32,97,32,45,45,62,32]
theorem toksI_ahead{b:Bool}{l:List EV}(h: ∀e∈l,EntOk e)(hl:l.length≤370):toksI (aheadX++mapT b l++[10])=(⟨3,bytesV [10]⟩::⟨3,bytesV [32]⟩::(mapK b l++[⟨3,bytesV [10]⟩]),0):=by
 have s1: ∀y,stepR (60::63::120::109::108::63::62::y)=⟨[],7,0⟩:=fun y=>by
  rw[step_mark13 rfl]
  unfold markR
  rw[if_neg (by simp[Lib.hasPrefix,List.isPrefixOf]),if_pos (by simp[Lib.hasPrefix,List.isPrefixOf])]
  unfold skipR
  have:Lib.index (List.drop 2 (60::63::120::109::108::63::62::y)) [63,62]=3:=by simp[Lib.index]
  rw[this]
  rfl
 have s2: ∀y,stepR (60::33::45::45::32::97::32::45::45::62::y)=⟨[],10,0⟩:=fun y=>by
  rw[step_mark13 rfl]
  unfold markR
  rw[if_pos (by simp[Lib.hasPrefix,List.isPrefixOf])]
  unfold skipR
  have:Lib.index (List.drop 4 (60::33::45::45::32::97::32::45::45::62::y)) [45,45,62]=3:=by simp[Lib.index]
  rw[this]
  rfl
 have s3:stepR [10]=⟨[⟨3,bytesV [10]⟩],1,0⟩:=by kernel_rfl
 obtain ⟨t,ht⟩: ∃t,mapT b l=60::t:=⟨_,rfl⟩
 have e:tokH [] (aheadX++mapT b l++[10])=(⟨3,bytesV [10]⟩::⟨3,bytesV [32]⟩::(mapK b l++[⟨3,bytesV [10]⟩]),0):=by
  have e1:aheadX++mapT b l++[10]=60::63::120::109::108::63::62::([10]++60::(33::45::45::32::97::32::45::45::62::([32]++(mapT b l++[10])))):=rfl
  rw[e1,tokH_step (by simp) (by rw[s1]),s1]
  show tokH _ ([10]++60::_)=_
  rw[tokH_txt (p:=[10]) (t:=[10]) (by simp) (by decide) rfl,tokH_step (by simp) (by rw[s2]),s2]
  show tokH _ ([32]++(mapT b l++[10]))=_
  rw[ht]
  show tokH _ ([32]++60::(t++[10]))=_
  rw[tokH_txt (p:=[32]) (t:=[32]) (by simp) (by decide) rfl,show 60::(t++[10])=mapT b l++[10] by rw[ht];rfl,tokH_map h,tokH_step (by simp) (by rw[s3]),s3]
  show tokH _ []=_
  rw[tokH_nil]
  simp
 unfold toksI endT
 rw[e,if_neg (by simp),if_neg (by simp only[List.length_cons,List.length_append,mapK_len,List.length_nil];omega)]
end Go.Proofs.YtfdgehlobbeomaaGreatDoor
namespace Go.Proofs.YtfdgehlobbeomaaGreatDoor
open Go.RowKit
def BAt(W:World)(B:Nat)(vs:List Value):Prop:=(∀j v,vs[j]? =some v→W.cell? ⟨B,j,none⟩=some v)∧(∀j,W.frozen? ⟨B,j,none⟩=false)∧B<W.heap.size
theorem BAt.new(w:World)(vs:Array Value)(t:TypeId):BAt (w.alloc (.cells vs t)) w.heap.size vs.toList:=by
 refine ⟨fun j v h=> ?_,fun j=>frozen_of_row _ _ j _ t (heap_alloc_new w _),by simp⟩
 rw[World.cell?_alloc_at _ _ _ _ rfl]
 simpa using h
theorem BAt.same{W W':World}{B:Nat}{vs:List Value}(h:BAt W B vs)(hz:W.heap.size≤W'.heap.size)(hs:W'.heap[B]? =W.heap[B]?):BAt W' B vs:=
 ⟨fun j v hv=>(World.cell?_of_block (w:=W) (a:=⟨B,j,none⟩) hs).trans (h.1 j v hv),fun j=>(World.frozen?_of_block (w:=W) (a:=⟨B,j,none⟩) hs).trans (h.2.1 j),Nat.lt_of_lt_of_le h.2.2 hz⟩
theorem BAt.below{W W':World}{B:Nat}{vs:List Value}(h:BAt W B vs)(hb:Below W.heap.size W W'):BAt W' B vs:=h.same hb.size (hb.block B h.2.2)
theorem BAt.alloc{W:World}{B:Nat}{vs:List Value}(h:BAt W B vs)(o:Obj):BAt (W.alloc o) B vs:=h.below ((Below.refl _ _).alloc (Nat.le_refl _) o)
theorem BAt.grown{W W':World}{B C:Nat}{vs:List Value}(h:BAt W B vs)(hg:W.grownBy W' (some C))(hne:B≠C):BAt W' B vs:=h.same hg.size (hg.block B h.2.2 (fun e=>hne (by injection e)))
theorem frozen_put(W:World)(B C j i:Nat)(v:Value)(h:W.frozen? ⟨B,i,none⟩=false):(W.setCell ⟨C,j,none⟩ v).frozen? ⟨B,i,none⟩=false:=by
 simpa[go_sem] using h
theorem BAt.set{W:World}{B:Nat}{vs:List Value}(h:BAt W B vs)(j:Nat)(hj:j<vs.length)(x:Value):BAt (W.setCell ⟨B,j,none⟩ x) B (vs.set j x):=by
 refine ⟨fun i v hv=> ?_,fun i=>frozen_put W B B j i x (h.2.1 i),by have:=h.2.2;simpa using this⟩
 by_cases e:j=i
 ·subst e
  rw[World.cell?_setCell_same' _ _ _ (by rw[h.1 j _ (List.getElem?_eq_getElem hj)];rfl)]
  rw[List.getElem?_set_self hj]at hv
  exact hv
 rw[World.cell?_setCell_other _ _ _ _ (fun h=>e (by injection h)),h.1 i v]
 rwa[List.getElem?_set_ne e]at hv
theorem BAt.other{W:World}{B C:Nat}{vs:List Value}(h:BAt W B vs)(hne:B≠C)(j:Nat)(x:Value):BAt (W.setCell ⟨C,j,none⟩ x) B vs:=by
 refine ⟨fun i v hv=> ?_,fun i=>frozen_put W B C j i x (h.2.1 i),by have:=h.2.2;simpa using this⟩
 rw[World.cell?_setCell_other _ _ _ _ (fun h=>hne (by injection h with h1 _;exact h1.symm))]
 exact h.1 i v hv
theorem put_grown(W:World)(C j:Nat)(x:Value):W.grownBy (W.setCell ⟨C,j,none⟩ x) (some C):=
 have b:=(Below.refl C W).setCell (p:=⟨C,j,none⟩) (Nat.le_refl _) x
 ⟨b.os,b.tape,b.output,b.size,fun k hk hne=>heap_setCell_other W ⟨C,j,none⟩ k x (fun e=>hne (by rw[e]))⟩
theorem own_put{W:World}{base:Nat}{e:TypeId}{size n:Nat}{v:Value}{xs:List Value}(h:W.ownsRow base e size v n xs){C:Nat}(hC:C<base)(j:Nat)(x:Value):(W.setCell ⟨C,j,none⟩ x).ownsRow base e size v n xs:=
 h.kept (put_grown W C j x) (.inr fun e=>by have:=(h.lt C e).1;omega)
end Go.Proofs.YtfdgehlobbeomaaGreatDoor
