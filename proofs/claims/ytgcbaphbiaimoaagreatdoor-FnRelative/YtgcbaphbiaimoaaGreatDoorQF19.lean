/- HostKinds, UrlKinds, ArrEq, HostEq, RuneImpl. -/
import Derived.Handy
import Derived.Test.YtgcbaphbiaimoaaGreatDoorQF15
import Derived.RangeFuncBox
import Derived.ChangeKeysEq
import Derived.Laws.StructEq
set_option maxHeartbeats 2000000
set_option maxRecDepth 100000
namespace Go.Proofs.YtgcbaphbiaimoaaGreatDoor
open Go.Value renaming int->I,string->L,tuple->Z,bool->H,agg->G,iface->F
open Go.IntKind renaming i64->J
open Go.Ending renaming returned->Y
open _root_.Go.RowKit.Below renaming refl->zi
open _root_.List renaming append_assoc->zk,getElem?_eq_getElem->zf,map_eq_cons_iff->za,mem_cons_of_mem->zh,mem_cons_self->zj
open _root_.Nat renaming le_refl->ze,lt_of_lt_of_le->zc
open _root_.Go.World renaming cell?_alloc_at->zg,cell?_setCell_other->zd
open _root_.Go.Proofs.Tryz
open _root_.Go.Proofs.YtgcbaphbiaimoaaGreatDoor.Tryz
section
open Go.RowKit
def eY(w W:World)(k:Int)(s:ByteArray)(n:Int)(x0 x1 x2 x3 x4 x5 x6 x7:Int):Prop:=
 W.cell? ⟨w.heap.size,0,none⟩=some (I J k)/\W.cell? ⟨w.heap.size,1,none⟩=some (L s)/\W.cell? ⟨w.heap.size,2,none⟩=some (I J n)/\
 W.cell? ⟨w.heap.size,3,none⟩=some (I J x0)/\W.cell? ⟨w.heap.size,4,none⟩=some (I J x1)/\W.cell? ⟨w.heap.size,5,none⟩=some (I J x2)/\W.cell? ⟨w.heap.size,6,none⟩=some (I J x3)/\
 W.cell? ⟨w.heap.size,7,none⟩=some (I J x4)/\W.cell? ⟨w.heap.size,8,none⟩=some (I J x5)/\W.cell? ⟨w.heap.size,9,none⟩=some (I J x6)/\W.cell? ⟨w.heap.size,10,none⟩=some (I J x7)
theorem fT(w W:World)(k:Int)(s:ByteArray)(n:Int)(x0 x1 x2 x3 x4 x5 x6 x7:Int)(t:TypeId)(hb:Below (w.alloc (.cells #[I J k,L s,I J n,I J x0,I J x1,I J x2,I J x3,I J x4,I J x5,I J x6,I J x7] t)).heap.size (w.alloc (.cells #[I J k,L s,I J n,I J x0,I J x1,I J x2,I J x3,I J x4,I J x5,I J x6,I J x7] t)) W):
  eY w W k s n x0 x1 x2 x3 x4 x5 x6 x7:=by
 have key: ∀j v,(#[I J k,L s,I J n,I J x0,I J x1,I J x2,I J x3,I J x4,I J x5,I J x6,I J x7]:Array Value)[j]? =some v->W.cell? ⟨w.heap.size,j,none⟩=some v:=fun j v h=>cell_later hb (by rw[zg _ _ _ _ rfl];simpa using h)
 exact ⟨key 0 _ rfl,key 1 _ rfl,key 2 _ rfl,key 3 _ rfl,key 4 _ rfl,key 5 _ rfl,key 6 _ rfl,key 7 _ rfl,key 8 _ rfl,key 9 _ rfl,key 10 _ rfl⟩
theorem zQ(w W:World)(cs:Array Value)(t:TypeId)(hb:Below (w.alloc (.cells cs t)).heap.size (w.alloc (.cells cs t)) W): ∀j,W.frozen? ⟨w.heap.size,j,none⟩=false:=
 fun j=>frozen_of_row W _ j _ t ((hb.block _ j2).trans (heap_alloc_new w _))
def fA(W:World)(B:Nat)(vs:List Value):Prop:= ∀j v,vs[j]? =some v->W.cell? ⟨B,j,none⟩=some v
theorem fA.set{W:World}{B:Nat}{vs:List Value}(h:fA W B vs)(j:Nat)(hj:j<vs.length)(x:Value):fA (W.setCell ⟨B,j,none⟩ x) B (vs.set j x):=by
 intro i v hv
 by_cases e:j=i
 .subst e
  rw[World.cell?_setCell_same' _ _ _ (by rw[h j _ (zf hj)];rfl)];rw[List.getElem?_set_self hj]at hv;exact hv
 rw[zd _ _ _ _ (fun h=>e (by injection h)),h i v]
 rwa[List.getElem?_set_ne e]at hv
theorem fA.other{W:World}{B:Nat}{vs:List Value}(h:fA W B vs){C:Nat}(hne:B≠C)(j:Nat)(x:Value):fA (W.setCell ⟨C,j,none⟩ x) B vs:=by
 intro i v hv;rw[zd _ _ _ _ (fun h=>hne (by injection h with h1 _;exact h1.symm))];exact h i v hv
def dU(k:Int)(s:ByteArray)(n:Int)(x0 x1 x2 x3 x4 x5 x6 x7:Int):List Value:=[I J k,L s,I J n,I J x0,I J x1,I J x2,I J x3,I J x4,I J x5,I J x6,I J x7]
theorem MP{w W:World}{k n:Int}{s:ByteArray}{x0 x1 x2 x3 x4 x5 x6 x7:Int}(h:eY w W k s n x0 x1 x2 x3 x4 x5 x6 x7):fA W w.heap.size (dU k s n x0 x1 x2 x3 x4 x5 x6 x7):=by
 obtain ⟨c0,c1,c2,c3,c4,c5,c6,c7,c8,c9,c10⟩:=h;intro j v hv
 match j,hv with
 |0,hv=>cases hv;exact c0
 |1,hv=>cases hv;exact c1
 |2,hv=>cases hv;exact c2
 |3,hv=>cases hv;exact c3
 |4,hv=>cases hv;exact c4
 |5,hv=>cases hv;exact c5
 |6,hv=>cases hv;exact c6
 |7,hv=>cases hv;exact c7
 |8,hv=>cases hv;exact c8
 |9,hv=>cases hv;exact c9
 |10,hv=>cases hv;exact c10
 |j+11,hv=>simp[dU]at hv
theorem eQ{W:World}{B:Nat}{k' n':Int}{s':ByteArray}{y0 y1 y2 y3 y4 y5 y6 y7:Int}(h:fA W B (dU k' s' n' y0 y1 y2 y3 y4 y5 y6 y7))(k n:Int)(s:ByteArray)(x0 x1 x2 x3 x4 x5 x6 x7:Int):fA (((((((((((W.setCell ⟨B,0,none⟩ (I J k)).setCell ⟨B,1,none⟩ (L s)).setCell ⟨B,2,none⟩ (I J n)).setCell ⟨B,3,none⟩ (I J x0)).setCell ⟨B,4,none⟩ (I J x1)).setCell ⟨B,5,none⟩ (I J x2)).setCell ⟨B,6,none⟩ (I J x3)).setCell ⟨B,7,none⟩ (I J x4)).setCell ⟨B,8,none⟩ (I J x5)).setCell ⟨B,9,none⟩ (I J x6)).setCell ⟨B,10,none⟩ (I J x7)) B (dU k s n x0 x1 x2 x3 x4 x5 x6 x7):=
 ((((((((((h.set 0 (by simp[dU]) (I J k)).set 1 (by simp[dU]) (L s)).set 2 (by simp[dU]) (I J n)).set 3 (by simp[dU]) (I J x0)).set 4 (by simp[dU]) (I J x1)).set 5 (by simp[dU]) (I J x2)).set 6 (by simp[dU]) (I J x3)).set 7 (by simp[dU]) (I J x4)).set 8 (by simp[dU]) (I J x5)).set 9 (by simp[dU]) (I J x6)).set 10 (by simp[dU]) (I J x7)
theorem fU{m:Nat}{w W:World}(h:Below m w W){B:Nat}(hB:m<=B)(k n:Int)(s:ByteArray)(x0 x1 x2 x3 x4 x5 x6 x7:Int):Below m w (((((((((((W.setCell ⟨B,0,none⟩ (I J k)).setCell ⟨B,1,none⟩ (L s)).setCell ⟨B,2,none⟩ (I J n)).setCell ⟨B,3,none⟩ (I J x0)).setCell ⟨B,4,none⟩ (I J x1)).setCell ⟨B,5,none⟩ (I J x2)).setCell ⟨B,6,none⟩ (I J x3)).setCell ⟨B,7,none⟩ (I J x4)).setCell ⟨B,8,none⟩ (I J x5)).setCell ⟨B,9,none⟩ (I J x6)).setCell ⟨B,10,none⟩ (I J x7)):=by
 have st: ∀(U:World) (j:Nat) (x:Value),Below m w U->Below m w (U.setCell ⟨B,j,none⟩ x):=fun U j x hU=>hU.setCell (p:=⟨B,j,none⟩) hB _
 exact st _ _ _ (st _ _ _ (st _ _ _ (st _ _ _ (st _ _ _ (st _ _ _ (st _ _ _ (st _ _ _ (st _ _ _ (st _ _ _ (st _ _ _ h))))))))))
theorem lZ{fn:Func}{p:Tmp}(h:fn.results= #[.cell p 26])(tmps:Array Value)(W:World)(B:Nat)(k n:Int)(s:ByteArray)(x0 x1 x2 x3 x4 x5 x6 x7:Int)
  (hp:tmps[p]?.getD undef=.pointer (some ⟨B,0,none⟩)) (ha:fA W B (dU k s n x0 x1 x2 x3 x4 x5 x6 x7)):
  (results fn tmps).run prog W=.ok (G #[I J k,L s,I J n,I J x0,I J x1,I J x2,I J x3,I J x4,I J x5,I J x6,I J x7]) W:=by
 have c0:=ha 0 _ rfl;have c1:=ha 1 _ rfl;have c2:=ha 2 _ rfl;have c3:=ha 3 _ rfl;have c4:=ha 4 _ rfl;have c5:=ha 5 _ rfl;have c6:=ha 6 _ rfl;have c7:=ha 7 _ rfl;have c8:=ha 8 _ rfl;have c9:=ha 9 _ rfl;have c10:=ha 10 _ rfl;simp[results,h,hp,asAddr,go_sem,c0,c1,c2,c3,c4,c5,c6,c7,c8,c9,c10,Addr.add_lit]
theorem fV{fn:Func}{p q:Tmp}(h:fn.results= #[.cell p 26,.tmp q])(tmps:Array Value)(W:World)(B:Nat)(v:Value)(k n:Int)(s:ByteArray)(x0 x1 x2 x3 x4 x5 x6 x7:Int)
  (hp:tmps[p]?.getD undef=.pointer (some ⟨B,0,none⟩)) (hq:tmps[q]?.getD undef=v) (ha:fA W B (dU k s n x0 x1 x2 x3 x4 x5 x6 x7)):
  (results fn tmps).run prog W=.ok (Z #[G #[I J k,L s,I J n,I J x0,I J x1,I J x2,I J x3,I J x4,I J x5,I J x6,I J x7],v]) W:=by
 have c0:=ha 0 _ rfl;have c1:=ha 1 _ rfl;have c2:=ha 2 _ rfl;have c3:=ha 3 _ rfl;have c4:=ha 4 _ rfl;have c5:=ha 5 _ rfl;have c6:=ha 6 _ rfl;have c7:=ha 7 _ rfl;have c8:=ha 8 _ rfl;have c9:=ha 9 _ rfl;have c10:=ha 10 _ rfl;simp[results,h,hp,hq,asAddr,go_sem,c0,c1,c2,c3,c4,c5,c6,c7,c8,c9,c10,Addr.add_lit]
theorem zR(n:Int)(s:ByteArray)(x0 x1 x2 x3 x4 x5 x6 x7:Int)(w:World):Calls prog 81 #[G #[I J 1,L s,I J n,I J x0,I J x1,I J x2,I J x3,I J x4,I J x5,I J x6,I J x7]] w fun e w'=>e=Y (F 142 (L s))/\Below w.heap.size w w':=by
 go_enter func81,ntmps81;go_wp2;go_ret;exact ⟨rfl,(zi _ _).alloc (ze _) _⟩
theorem zS(n:Int)(s:ByteArray)(x0 x1 x2 x3 x4 x5 x6 x7:Int)(w:World):Calls prog 81 #[G #[I J 2,L s,I J n,I J x0,I J x1,I J x2,I J x3,I J x4,I J x5,I J x6,I J x7]] w fun e w'=>e=Y (F 143 (I J n))/\Below w.heap.size w w':=by
 go_enter func81,ntmps81;go_wp2;go_ret;exact ⟨rfl,(zi _ _).alloc (ze _) _⟩
theorem zT(n:Int)(s:ByteArray)(x0 x1 x2 x3 x4 x5 x6 x7:Int)(w:World):Calls prog 81 #[G #[I J 3,L s,I J n,I J x0,I J x1,I J x2,I J x3,I J x4,I J x5,I J x6,I J x7]] w fun e w'=>e=Y (F 144 (G #[I J x0,I J x1,I J x2,I J x3,I J x4,I J x5,I J x6,I J x7]))/\Below w.heap.size w w':=by
 go_enter func81,ntmps81;go_wp2;go_ret;exact ⟨rfl,(zi _ _).alloc (ze _) _⟩
theorem RJ(k n:Int)(s:ByteArray)(x0 x1 x2 x3 x4 x5 x6 x7:Int)(w:World)(h1: ¬k=1)(h2: ¬k=2)(h3: ¬k=3):Calls prog 81 #[G #[I J k,L s,I J n,I J x0,I J x1,I J x2,I J x3,I J x4,I J x5,I J x6,I J x7]] w fun e w'=>e=.returned .nilIface/\Below w.heap.size w w':=by
 have q1:(k==1)=false:=beq_eq_false_iff_ne.2 h1;have q2:(k==2)=false:=beq_eq_false_iff_ne.2 h2;have q3:(k==3)=false:=beq_eq_false_iff_ne.2 h3;clear h1 h2 h3;go_enter func81,ntmps81;go_wp2;go_ret;exact ⟨rfl,(zi _ _).alloc (ze _) _⟩
theorem ta11(s:ByteArray)(W:World):(Instr.typeAssert (F 142 (L s)) 99 142 true).run prog W=.ok (Z #[L s,H true]) W:=kr
theorem ta21(n:Int)(W:World):(Instr.typeAssert (F 143 (I J n)) 99 142 true).run prog W=.ok (Z #[L ⟨#[]⟩,H false]) W:=kr
theorem ta22(n:Int)(W:World):(Instr.typeAssert (F 143 (I J n)) 99 143 true).run prog W=.ok (Z #[I J n,H true]) W:=kr
theorem ta31(v:Value)(W:World):(Instr.typeAssert (F 144 v) 99 142 true).run prog W=.ok (Z #[L ⟨#[]⟩,H false]) W:=kr
theorem ta32(v:Value)(W:World):(Instr.typeAssert (F 144 v) 99 143 true).run prog W=.ok (Z #[I J 0,H false]) W:=kr
theorem ta33(v:Value)(W:World):(Instr.typeAssert (F 144 v) 99 144 true).run prog W=.ok (Z #[v,H true]) W:=kr
theorem ta01(W:World):(Instr.typeAssert .nilIface 99 142 true).run prog W=.ok (Z #[L ⟨#[]⟩,H false]) W:=kr
theorem ta02(W:World):(Instr.typeAssert .nilIface 99 143 true).run prog W=.ok (Z #[I J 0,H false]) W:=kr
theorem ta03(W:World):(Instr.typeAssert .nilIface 99 144 true).run prog W=.ok (Z #[G #[I J 0,I J 0,I J 0,I J 0,I J 0,I J 0,I J 0,I J 0],H false]) W:=kr
theorem wX(s:ByteArray)(w:World):Calls prog 82 #[F 142 (L s)] w fun e w'=>e=Y (G #[I J 1,L s,I J 0,I J 0,I J 0,I J 0,I J 0,I J 0,I J 0,I J 0,I J 0])/\Below w.heap.size w w':=by
 have t1:=ta11 s;go_enter func82,ntmps82;go_wp2;go_returns;exact ⟨rfl,by go_grown⟩
theorem wY(n:Int)(w:World):Calls prog 82 #[F 143 (I J n)] w fun e w'=>e=Y (G #[I J 2,L ⟨#[]⟩,I J n,I J 0,I J 0,I J 0,I J 0,I J 0,I J 0,I J 0,I J 0])/\Below w.heap.size w w':=by
 have t1:=ta21 n;have t2:=ta22 n;go_enter func82,ntmps82;go_wp2;go_returns;exact ⟨rfl,by go_grown⟩
theorem wZ(x0 x1 x2 x3 x4 x5 x6 x7:Int)(w:World):Calls prog 82 #[F 144 (G #[I J x0,I J x1,I J x2,I J x3,I J x4,I J x5,I J x6,I J x7])] w fun e w'=>e=Y (G #[I J 3,L ⟨#[]⟩,I J 0,I J x0,I J x1,I J x2,I J x3,I J x4,I J x5,I J x6,I J x7])/\Below w.heap.size w w':=by
 have t1:=ta31 (G #[I J x0,I J x1,I J x2,I J x3,I J x4,I J x5,I J x6,I J x7]);have t2:=ta32 (G #[I J x0,I J x1,I J x2,I J x3,I J x4,I J x5,I J x6,I J x7]);have t3:=ta33 (G #[I J x0,I J x1,I J x2,I J x3,I J x4,I J x5,I J x6,I J x7]);go_enter func82,ntmps82;go_wp2;go_returns;exact ⟨rfl,by go_grown⟩
theorem MQ(w:World):Calls prog 82 #[.nilIface] w fun e w'=>e=Y (G #[I J 0,L ⟨#[]⟩,I J 0,I J 0,I J 0,I J 0,I J 0,I J 0,I J 0,I J 0,I J 0])/\Below w.heap.size w w':=by
 have t1:=ta01;have t2:=ta02;have t3:=ta03;go_enter func82,ntmps82;go_wp2;go_returns;exact ⟨rfl,by go_grown⟩
def UAt(W:World)(B:Nat)(vs:List Value):Prop:=fA W B vs/\(∀j,W.frozen? ⟨B,j,none⟩=false)/\B<W.heap.size
theorem UAt.new(w:World)(vs:Array Value)(t:TypeId):UAt (w.alloc (.cells vs t)) w.heap.size vs.toList:=by
 refine ⟨fun j v h=> ?_,fun j=>frozen_of_row _ _ j _ t (heap_alloc_new w _),by simp⟩;rw[zg _ _ _ _ rfl];simpa using h
theorem UAt.below{W W':World}{B:Nat}{vs:List Value}(h:UAt W B vs)(hb:Below W.heap.size W W'):UAt W' B vs:=by
 have hs:=hb.block B h.2.2;refine ⟨fun j v hv=>cell_later hb (h.1 j v hv),fun j=> ?_,zc h.2.2 hb.size⟩;have hf:=h.2.1 j;unfold World.frozen? at hf⊢;rw[hs];exact hf
theorem EN(W:World)(B C j i:Nat)(v:Value)(h:W.frozen? ⟨B,i,none⟩=false):(W.setCell ⟨C,j,none⟩ v).frozen? ⟨B,i,none⟩=false:=by
 simpa[go_sem] using h
theorem UAt.set{W:World}{B:Nat}{vs:List Value}(h:UAt W B vs)(j:Nat)(hj:j<vs.length)(v:Value):UAt (W.setCell ⟨B,j,none⟩ v) B (vs.set j v):=
 ⟨h.1.set j hj v,fun i=>EN W B B j i v (h.2.1 i),zc h.2.2 (KeepsWalks.setCell W _ v).size⟩
theorem UAt.other{W:World}{B C:Nat}{vs:List Value}(h:UAt W B vs)(hne:B≠C)(j:Nat)(v:Value):UAt (W.setCell ⟨C,j,none⟩ v) B vs:=
 ⟨h.1.other hne j v,fun i=>EN W B C j i v (h.2.1 i),zc h.2.2 (KeepsWalks.setCell W _ v).size⟩
def VJ(W:World)(C:Nat):Nat->List Value->World
 |_,[]=>W
 |j,v::vs=>VJ (W.setCell ⟨C,j,none⟩ v) C (j+1) vs
theorem UAt.row: ∀{vs:List Value} {W:World} {C:Nat} {pre old:List Value},UAt W C (pre++old)->old.length=vs.length->UAt (VJ W C pre.length vs) C (pre++vs)
 |[],W,C,pre,old,h,hl=>by
  have:old=[]:=List.eq_nil_of_length_eq_zero hl
  subst this;exact h
 |v::vs,W,C,pre,[],h,hl=>by simp at hl
 |v::vs,W,C,pre,o::old,h,hl=>by
  have h1:=h.set pre.length j2 v;rw[List.set_append_right _ _ (ze _),Nat.sub_self,List.set_cons_zero]at h1;have h2:UAt (W.setCell ⟨C,pre.length,none⟩ v) C ((pre++[v])++old):=by rw[zk];exact h1
  have h3:=UAt.row (vs:=vs) h2 (by simpa using hl);rw[List.length_append,List.length_singleton,zk]at h3;exact h3
theorem UAt.whole{vs old:List Value}{W:World}{C:Nat}(h:UAt W C old)(hl:old.length=vs.length):UAt (VJ W C 0 vs) C vs:=UAt.row (pre:=[]) h hl
def aC(s k:Int)(nm:ByteArray)(n:Int)(x0 x1 x2 x3 x4 x5 x6 x7:Int)(p:Int)(a:ByteArray)(q:Bool)(r:ByteArray):List Value:=[I J s,I J k,L nm,I J n,I J x0,I J x1,I J x2,I J x3,I J x4,I J x5,I J x6,I J x7,I J p,L a,H q,L r]
def aY:List Value:=aC 0 0 ⟨#[]⟩ 0 0 0 0 0 0 0 0 0 0 ⟨#[]⟩ false ⟨#[]⟩

theorem uQ(d:Nat)(x y:Int)(W:World):(Op.equalIn (d+1) 3 (I J x) (I J y)).run prog W=.ok (x==y) W:=run_equalIn_int W d 3 .i64 .i64 x y underlying3
theorem MR(d:Nat)(x y:ByteArray)(W:World):(Op.equalIn (d+1) 9 (L x) (L y)).run prog W=.ok (x.toList==y.toList) W:=run_equalIn_string W d 9 x y underlying9
def eqB(z y:List Int):Bool:=decide (z=y)
theorem JV(d:Nat)(xs ys:Array Value)(W:World)(zx zy:Nat->Int): ∀(js:List Nat),
  (∀j∈js,(part 3 xs (j*1)).run prog W=.ok (I J (zx j)) W)->(∀j∈js,(part 3 ys (j*1)).run prog W=.ok (I J (zy j)) W)->
  (Op.eqItems (d+1) 3 1 xs ys js).run prog W=.ok (js.all fun j=>zx j==zy j) W
 |[],_,_=>by simp[Op.eqItems]
 |j::js,hx,hy=>by
  have ih:=JV d xs ys W zx zy js (fun i hi=>hx i (zh _ hi)) (fun i hi=>hy i (zh _ hi));simp only[Op.eqItems,Sem.run_bind,hx j zj,hy j zj,Result.andThen_ok,uQ]
  cases h:(zx j==zy j)with
  |false=>simp[h]
  |true=>simp[h,ih]
theorem YE(x0 x1 x2 x3 x4 x5 x6 x7:Int)(W:World): ∀j∈[0,1,2,3,4,5,6,7],(part 3 #[I J x0,I J x1,I J x2,I J x3,I J x4,I J x5,I J x6,I J x7] (j*1)).run prog W=.ok (I J ([x0,x1,x2,x3,x4,x5,x6,x7].getD j 0)) W:=by
 intro j hj;simp only[List.mem_cons,List.not_mem_nil,or_false]at hj
 rcases hj with rfl|rfl|rfl|rfl|rfl|rfl|rfl|rfl<;>simp[part,isAgg3,go_sem]
theorem Hf(x0 x1 x2 x3 x4 x5 x6 x7 y0 y1 y2 y3 y4 y5 y6 y7:Int):([0,1,2,3,4,5,6,7].all fun j=>[x0,x1,x2,x3,x4,x5,x6,x7].getD j 0==[y0,y1,y2,y3,y4,y5,y6,y7].getD j 0)=eqB [x0,x1,x2,x3,x4,x5,x6,x7] [y0,y1,y2,y3,y4,y5,y6,y7]:=by
 unfold eqB;rw[Bool.eq_iff_iff,decide_eq_true_eq,List.all_eq_true];constructor
 .intro h
  have e: ∀j,j∈[0,1,2,3,4,5,6,7]->[x0,x1,x2,x3,x4,x5,x6,x7].getD j 0=[y0,y1,y2,y3,y4,y5,y6,y7].getD j 0:=fun j hj=>by simpa using h j hj
  have e0:x0=y0:=e 0 j2;have e1:x1=y1:=e 1 j2;have e2:x2=y2:=e 2 j2;have e3:x3=y3:=e 3 j2;have e4:x4=y4:=e 4 j2;have e5:x5=y5:=e 5 j2;have e6:x6=y6:=e 6 j2;have e7:x7=y7:=e 7 j2;rw[e0,e1,e2,e3,e4,e5,e6,e7]
 intro h j _;rw[h];simp
theorem eqA(d:Nat)(x0 x1 x2 x3 x4 x5 x6 x7 y0 y1 y2 y3 y4 y5 y6 y7:Int)(W:World):
  (Op.equalIn (d+2) 24 (G #[I J x0,I J x1,I J x2,I J x3,I J x4,I J x5,I J x6,I J x7]) (G #[I J y0,I J y1,I J y2,I J y3,I J y4,I J y5,I J y6,I J y7])).run prog W=.ok (eqB [x0,x1,x2,x3,x4,x5,x6,x7] [y0,y1,y2,y3,y4,y5,y6,y7]) W:=by
 obtain ⟨i0,hi,hz0,hz1,hz2⟩:=info_parts infoI5;rw[run_equalIn_array W (d+1) _ _ underlying24 hi,show prog.cellsOf 3=1 by kernel_rfl,show List.range 8=[0,1,2,3,4,5,6,7] from rfl,
  JV d _ _ W (fun j=>[x0,x1,x2,x3,x4,x5,x6,x7].getD j 0) (fun j=>[y0,y1,y2,y3,y4,y5,y6,y7].getD j 0) _ (YE x0 x1 x2 x3 x4 x5 x6 x7 W) (YE y0 y1 y2 y3 y4 y5 y6 y7 W),Hf x0 x1 x2 x3 x4 x5 x6 x7 y0 y1 y2 y3 y4 y5 y6 y7]
def mB(k:Int)(s:ByteArray)(n:Int)(z:List Int)(k':Int)(s':ByteArray)(n':Int)(z':List Int):Bool:=(k==k')&&((s.toList==s'.toList)&&((n==n')&&eqB z z'))
theorem zU:((prog.fieldsOf 26).toList.map fun f=>(f.type,f.offset,decide (f.name≠ "_")))=[(3,0,true),(9,1,true),(3,2,true),(24,3,true)]:=kr
theorem cQ(d:Nat)(f:Field)(fs:List Field)(xs ys:Array Value)(a b:Value)(r:Bool)(W:World)(hn:f.name≠ "_")(h1:(part f.type xs f.offset).run prog W=.ok a W)(h2:(part f.type ys f.offset).run prog W=.ok b W)(h3:(Op.equalIn d f.type a b).run prog W=.ok r W):
  (Op.eqFields d xs ys (f::fs)).run prog W=if r=true then (Op.eqFields d xs ys fs).run prog W else .ok false W:=by
 simp only[Op.eqFields,hn,ne_eq,not_false_eq_true,if_true,Sem.run_bind,h1,h2,h3,Result.andThen_ok]
 cases r<;>simp
theorem YF(k n:Int)(s:ByteArray)(x0 x1 x2 x3 x4 x5 x6 x7:Int)(W:World):(part 3 #[I J k,L s,I J n,I J x0,I J x1,I J x2,I J x3,I J x4,I J x5,I J x6,I J x7] 0).run prog W=.ok (I J k) W:=kr
theorem YG(k n:Int)(s:ByteArray)(x0 x1 x2 x3 x4 x5 x6 x7:Int)(W:World):(part 9 #[I J k,L s,I J n,I J x0,I J x1,I J x2,I J x3,I J x4,I J x5,I J x6,I J x7] 1).run prog W=.ok (L s) W:=kr
theorem YH(k n:Int)(s:ByteArray)(x0 x1 x2 x3 x4 x5 x6 x7:Int)(W:World):(part 3 #[I J k,L s,I J n,I J x0,I J x1,I J x2,I J x3,I J x4,I J x5,I J x6,I J x7] 2).run prog W=.ok (I J n) W:=kr
theorem YI(k n:Int)(s:ByteArray)(x0 x1 x2 x3 x4 x5 x6 x7:Int)(W:World):(part 24 #[I J k,L s,I J n,I J x0,I J x1,I J x2,I J x3,I J x4,I J x5,I J x6,I J x7] 3).run prog W=.ok (G #[I J x0,I J x1,I J x2,I J x3,I J x4,I J x5,I J x6,I J x7]) W:=kr
theorem eqH(k:Int)(s:ByteArray)(n:Int)(x0 x1 x2 x3 x4 x5 x6 x7:Int)(k':Int)(s':ByteArray)(n':Int)(y0 y1 y2 y3 y4 y5 y6 y7:Int)(W:World):
  (Op.equalIn 10000 26 (G #[I J k,L s,I J n,I J x0,I J x1,I J x2,I J x3,I J x4,I J x5,I J x6,I J x7]) (G #[I J k',L s',I J n',I J y0,I J y1,I J y2,I J y3,I J y4,I J y5,I J y6,I J y7])).run prog W=.ok (mB k s n [x0,x1,x2,x3,x4,x5,x6,x7] k' s' n' [y0,y1,y2,y3,y4,y5,y6,y7]) W:=by
 rw[show (10000:Nat)=9999+1 from rfl,run_equalIn_struct W 9999 26 _ _ kr kr];have hf:=zU;generalize (prog.fieldsOf 26).toList=fs at hf;obtain ⟨f0,r0,rfl,e0,hf⟩:=za.1 hf;obtain ⟨f1,r1,rfl,e1,hf⟩:=za.1 hf;obtain ⟨f2,r2,rfl,e2,hf⟩:=za.1 hf;obtain ⟨f3,r3,rfl,e3,hf⟩:=za.1 hf
 obtain rfl:=List.map_eq_nil_iff.1 hf
 simp only[Prod.mk.injEq,decide_eq_true_eq]at e0 e1 e2 e3;obtain ⟨a0,a1,a2⟩:=e0;obtain ⟨b0,b1,b2⟩:=e1;obtain ⟨c0,c1,c2⟩:=e2;obtain ⟨d0,d1,d2⟩:=e3;rw[cQ 9999 f0 _ _ _ (I J k) (I J k') (k==k') W a2 (by rw[a0,a1];exact YF ..) (by rw[a0,a1];exact YF ..) (by rw[a0];exact uQ 9998 ..),
  cQ 9999 f1 _ _ _ (L s) (L s') (s.toList==s'.toList) W b2 (by rw[b0,b1];exact YG ..) (by rw[b0,b1];exact YG ..) (by rw[b0];exact MR 9998 ..),
  cQ 9999 f2 _ _ _ (I J n) (I J n') (n==n') W c2 (by rw[c0,c1];exact YH ..) (by rw[c0,c1];exact YH ..) (by rw[c0];exact uQ 9998 ..),
  cQ 9999 f3 _ _ _ (G #[I J x0,I J x1,I J x2,I J x3,I J x4,I J x5,I J x6,I J x7]) (G #[I J y0,I J y1,I J y2,I J y3,I J y4,I J y5,I J y6,I J y7]) (eqB [x0,x1,x2,x3,x4,x5,x6,x7] [y0,y1,y2,y3,y4,y5,y6,y7]) W d2 (by rw[d0,d1];exact YI ..) (by rw[d0,d1];exact YI ..) (by rw[d0];exact eqA 9997 ..)]
 unfold mB
 cases (k==k')<;>cases (s.toList==s'.toList)<;>cases (n==n')<;>cases (eqB [x0,x1,x2,x3,x4,x5,x6,x7] [y0,y1,y2,y3,y4,y5,y6,y7])<;>rfl
end
section
open Go.RowKit Go.Shelf
def iE(r:Int):Bool:=decide (0<=r/\r<=1114111/\(r<55296∨57343<r))
theorem JW(r:Int):iE r=true↔dH r:=by unfold iE dH;exact decide_eq_true_iff
theorem VK(r:Int)(w:World):Calls prog 306 #[I J r] w fun e w'=>e=Y (H (iE r))/\w=w':=by
 by_cases h0:r<0
 .have HV:Hid (iE r=false):=by show _=_;unfold iE;rw[decide_eq_false_iff_not];omega
  go_enter func306,ntmps306;go_wp2;go_ret;exact ⟨aG HV.out.symm,rfl⟩
 by_cases h1:1114111<r
 .have HV:Hid (iE r=false):=by show _=_;unfold iE;rw[decide_eq_false_iff_not];omega
  go_enter func306,ntmps306;go_wp2;go_ret;exact ⟨aG HV.out.symm,rfl⟩
 by_cases h2:r<55296
 .have HV:Hid (iE r=true):=by show _=_;unfold iE;rw[decide_eq_true_iff];omega
  go_enter func306,ntmps306;go_wp2;go_ret;exact ⟨aG (by rw[HV.out]),rfl⟩
 by_cases h3:57343<r
 .have HV:Hid (iE r=true):=by show _=_;unfold iE;rw[decide_eq_true_iff];omega
  go_enter func306,ntmps306;go_wp2;go_ret;exact ⟨aG (by rw[HV.out]),rfl⟩
 have HV:Hid (iE r=false):=by show _=_;unfold iE;rw[decide_eq_false_iff_not];omega
 go_enter func306,ntmps306;go_wp2;go_ret;exact ⟨aG (by rw[HV.out]),rfl⟩
theorem VL(r:Int)(w:World):Calls prog 298 #[I J r] w fun e w'=>e=Y (H (!(iE r)))/\w=w':=by
 have HC:Hid (CS 306 #[I J r] w (H (iE r))):=VK r w;generalize iE r=b at HC;go_enter func298,ntmps298;go_wp2_with fail;refine HC.out.mono ?_;rintro e w' ⟨rfl,rfl⟩;go_wp2_with fail;go_ret;exact ⟨rfl,rfl⟩
theorem RK(w:World):PredAt prog 298 #[] (fun z:Int=>Value.int .i64 z) (fun z=> !iE z) w:=by
 intro W x _;exact (VL x W).mono fun e w' h=>⟨h.1,0,h.2.symm⟩
theorem JX(l:List Nat)(n0 N cap g:Nat)(B:Nat)(w:World)(hN:l.length=N)(hN1:N<=1048576)(hv: ∀c∈l,c<=1114111)(hex:aK n0 l<=1114111)(hown:w.ownsRow B 3 1 (.slice (some ⟨g,0,none⟩) N cap) N (icN l)):Calls prog 299 #[.slice (some ⟨g,0,none⟩) N cap,I J (n0:Int)] w fun e w'=>e=Y (I J (aK n0 l:Int))/\w=w':=by
 have HL:Hid (l.length=N):=hN;have HV:Hid (∀c∈l,c<=1114111):=hv;have H0:Hid (lM n0 1114111 l=aK n0 l):=by
  show _=_;rw[yF n0 l _ de];split<;>omega
 clear hN hv hex;go_enter func299,ntmps299;go_wp2_with fail
 go_loop[5,10] (fun a i=> ∃k m:Nat,k<=N/\i=I J k/\a=I J m/\m<=1114112/\lM n0 m (l.drop k)=aK n0 l) (fun _ i=>N-(intOf i).toNat)
 case atStart=>exact ⟨0,1114111,Nat.zero_le _,rfl,rfl,de,H0.out⟩
 obtain ⟨k,m,hk,rfl,rfl,hm,he⟩:=hrel;have HE:Hid (lM n0 m (l.drop k)=aK n0 l):=he;clear he
 by_cases hlt:k<N
 .have ca:=jZ hown k hlt
  have HS:Hid (l.drop k=l.getD k 0::l.drop (k+1)):=nH l k (by have:=HL.out;omega);have hc:=HV.out (l.getD k 0) (by
   rw[List.getD_eq_getElem?_getD,zf (by have:=HL.out;omega)];exact List.getElem_mem _)
  generalize l.getD k 0=c at ca HS hc;have HR:Hid (lM n0 (if n0<=c/\c<m then c else m) (l.drop (k+1))=aK n0 l):=by show _=_;rw[<-HE.out,HS.out];rfl
  by_cases h1:(n0:Int)<=(c:Int)
  .by_cases h2:(c:Int)<(m:Int)
   .rw[if_pos om]at HR
    go_wp2_with fail;go_round
    case rel=>exact ⟨k+1,c,om,gn,gn,om,HR.out⟩
    case measure=>exact j1
   rw[if_neg om]at HR;go_wp2_with fail;go_round
   case rel=>exact ⟨k+1,m,om,gn,gn,hm,HR.out⟩
   case measure=>exact j1
  rw[if_neg om]at HR;go_wp2_with fail;go_round
  case rel=>exact ⟨k+1,m,om,gn,rfl,hm,HR.out⟩
  case measure=>exact j1
 have HR:Hid (m=aK n0 l):=by
  show _=_;rw[<-HE.out,List.drop_of_length_le (by have:=HL.out;omega)];rfl
 go_wp2_with fail;go_ret;exact ⟨aR (by rw[<-HR.out]),rfl⟩
