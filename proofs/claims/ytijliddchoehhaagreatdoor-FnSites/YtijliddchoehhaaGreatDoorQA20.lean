/- InsImpl, CutImpl. -/
import Derived.Test.YtijliddchoehhaaGreatDoorQA15
import Derived.Test.YtijliddchoehhaaGreatDoorQA18
set_option maxHeartbeats 4000000
set_option maxRecDepth 100000
namespace Go.Proofs.YtijliddchoehhaaGreatDoor
open Go.RowKit Go.Shelf
theorem row_setCells(g:Nat)(e:TypeId): ∀(vs:List Value) (o:Nat) (w:World) (cur:Array Value),w.heap[g]? =some (.cells cur e (0,0))→o+vs.length≤cur.size→
  ∃cur':Array Value,(w.setCells g o vs).heap[g]? =some (.cells cur' e (0,0))∧cur'.toList=cur.toList.take o++(vs++cur.toList.drop (o+vs.length))
 |[],o,w,cur,h,_=>⟨cur,h,by simp⟩
 |v::r,o,w,cur,h,hl=>by
  rw[List.length_cons]at hl
  obtain ⟨cur',h1,h2⟩:=row_setCells g e r (o+1) (w.setCell ⟨g,o,none⟩ v) (cur.setIfInBounds o v) (heap_setCell_same w g o cur e v h) (by simp;omega)
  refine ⟨cur',h1,?_⟩
  rw[h2,Array.toList_setIfInBounds,List.drop_set_of_lt (by omega),List.take_set,List.length_cons,show o+(r.length+1)=o+1+r.length by omega]
  have hc:o<cur.toList.length:=by simp;omega
  rw[List.take_succ_eq_append_getElem hc,List.set_append_right _ _ (by simp;omega)]
  have e1:o-(cur.toList.take o).length=0:=by simp;omega
  rw[e1]
  simp
theorem setCells_below{B g:Nat}(hb:B≤g): ∀(vs:List Value) (o:Nat) (a w:World),Below B a w→Below B a (w.setCells g o vs)
 |[],_,_,_,h=>h
 |v::r,o,a,_,h=>setCells_below hb r (o+1) a _ (h.setCell (p:=⟨g,o,none⟩) hb v)
theorem icN_ins(l:List Nat)(i x:Nat):icN (insAt i x l)=(icN l).take i++([Value.int .i64 (x:Int)]++(icN l).drop i):=by
 simp[icN,icells,insAt]
theorem icN_length(l:List Nat):(icN l).length=l.length:=by simp[icN,icells]
theorem icN_one(l:List Nat): ∀v∈icN l,v.oneCell'=true:=by
 intro v hv
 simp[icN,icells]at hv
 obtain ⟨c,_,rfl⟩:=hv
 rfl
theorem icN_end(l:List Nat)(x:Nat):icN (insAt l.length x l)=icN l++[Value.int .i64 (x:Int)]:=by
 have h:=icN_length l
 rw[icN_ins,List.take_of_length_le (by omega),List.drop_of_length_le (by omega),List.append_nil]
theorem zeros_size(z:Value)(n:Nat)(h:z.cells= #[z]):(Builtin.zeroCells z.cells n).size=n:=by
 rw[h]
 simp[Builtin.zeroCells]
theorem list_size{α:Type}{c:Array α}{l:List α}(h:c.toList=l):c.size=l.length:=by rw[←h];simp
theorem implInsert(l:List Nat)(i x:Nat)(v:Value)(B:Nat)(w:World)(hown:w.ownsRow B 3 1 v l.length (icN l))(hB:B≤w.heap.size)(hi:i≤l.length)(hl:l.length≤1048576):
  Calls Tryz.prog 161 #[v,.int .i64 (i:Int),.slice (some ⟨w.heap.size,0,none⟩) 1 1] (w.alloc (.cells #[.int .i64 (x:Int)] 3)) fun e w'=>
   ∃v',e=.returned v'∧w'.ownsRow B 3 1 v' (l.length+1) (icN (insAt i x l))∧Below B w w':=by
 have hil:=icN_length l
 have hlen:(icN (insAt i x l)).length=(l.length+1)*1:=by rw[icN_length,insAt_length];omega
 obtain ⟨W,hW⟩: ∃W,w.alloc (.cells #[.int .i64 (x:Int)] 3)=W:=⟨_,rfl⟩
 have hsz:W.heap.size=w.heap.size+1:=by rw[←hW];simp
 have hnew:W.heap[w.heap.size]? =some (.cells #[.int .i64 (x:Int)] 3 (0,0)):=by rw[←hW];exact heap_alloc_new w _
 have hcell: ∀j u,[Value.int .i64 (x:Int)][j]? =some u→W.cell? ⟨w.heap.size,0+j,none⟩=some u:=by
  intro j u hj
  rw[Nat.zero_add,←hW,World.cell?_alloc_at _ _ _ _ rfl]
  simpa using hj
 have hone: ∀u∈[Value.int .i64 (x:Int)],u.oneCell'=true:=by
  intro u hu
  rw[List.mem_singleton.1 hu]
  rfl
 have hoW:W.ownsRow B 3 1 v l.length (icN l):=by rw[←hW];exact hown.alloc _
 have hbW:Below B w W:=by rw[←hW];exact (Below.refl B w).alloc hB _
 have hglt: ∀g cap,v=.slice (some ⟨g,0,none⟩) l.length cap→g≠w.heap.size:=by
  intro g cap hv
  rcases hown.2 with ⟨h0,_⟩|⟨g',cap',cur,hv',_,hg,_⟩
  ·rw[hv]at h0;cases h0
  rw[hv]at hv'
  injection hv' with h1
  injection h1 with h1
  injection h1 with h1
  subst h1
  have:=(Array.getElem?_eq_some_iff.1 hg).1
  omega
 rw[hW]
 rcases hoW.2 with ⟨rfl,h0⟩|⟨g,cap,cur,rfl,hb,hg,hnc,hcm,hcs,htake⟩
 ·
  have hl0:l=[]:=List.eq_nil_of_length_eq_zero h0
  subst hl0
  obtain rfl:i=0:=by simpa using hi
  refine (Any2.slices_Insert_int_end_grow Tryz.laysNm221 none 0 0 w.heap.size 0 1 1 [] [.int .i64 (x:Int)] W (by decide) (Nat.le_refl _) (by decide) (by decide) rfl rfl (fun _=>rfl) (fun a h=>by cases h) hcell hone).mono ?_
  rintro e w' ⟨rfl,rfl⟩
  have hc:1≤grownCap W 1 0 3:=grownCap_ge W 1 0 3
  refine ⟨_,rfl,⟨hlen,.inr ⟨W.heap.size,_,_,rfl,by omega,heap_alloc_new W.drew _,hc,grownCap_le_maxLen W _ _ _ (by unfold maxLen;omega),?_,?_⟩⟩,hbW.trans (((Below.refl B W).drew).alloc (by show B≤W.heap.size;omega) _)⟩
  ·show (([]++[Value.int .i64 (x:Int)]).toArray++Builtin.zeroCells (Value.int .i64 0).cells (grownCap W 1 0 3-1)).size=grownCap W 1 0 3*1
   rw[Array.size_append,zeros_size _ _ rfl]
   simp
   omega
  simp[icN,icells,insAt]
 simp only[Nat.mul_one]at hcs htake
 have hgw:=hglt g cap rfl
 have hcells: ∀(j:Nat) (u:Value),(icN l)[j]? =some u→W.cell? ⟨g,0+j,none⟩=some u:=by
  intro j u hj
  rw[Nat.zero_add]
  have hjl:j<l.length:=by
   have:=(List.getElem?_eq_some_iff.1 hj).1
   omega
  rw[←htake,List.getElem?_take_of_lt hjl]at hj
  simp only[World.cell?,hg]
  simpa using hj
 have hsp: ∀j,j<cap→(W.cell? ⟨g,0+j,none⟩).isSome=true:=by
  intro j hj
  rw[Nat.zero_add]
  simp only[World.cell?,hg]
  simp[hcs,hj]
 have hfz: ∀j,W.frozen? ⟨g,0+j,none⟩=false:=fun j=>own_frozen hoW (0+j)
 have hcur:cur.toList.length=cap:=by simp[hcs]
 by_cases hroom:l.length+1≤cap
 ·by_cases hend:i=l.length
  ·subst hend
   refine (Any2.slices_Insert_int_end_room Tryz.laysNm221 g 0 l.length cap w.heap.size 0 1 1 [.int .i64 (x:Int)] W (by decide) hroom (by unfold maxLen at hcm;omega) rfl (fun j hj=>by rw[Nat.zero_add];simpa using hsp (l.length+j) (by omega)) (fun j _=>by have:=hfz (l.length+j);simpa using this) hcell hone).mono ?_
   rintro e w' ⟨rfl,rfl⟩
   obtain ⟨cur',h1,h2⟩:=row_setCells g 3 [.int .i64 (x:Int)] (0+l.length) W cur hg (by simp;omega)
   refine ⟨_,rfl,⟨hlen,.inr ⟨g,cap,cur',rfl,hb,h1,hroom,hcm,?_,?_⟩⟩,setCells_below hb _ _ _ _ hbW⟩
   ·rw[list_size h2]
    simp
    omega
   rw[Nat.mul_one,h2,Nat.zero_add,htake,←List.append_assoc,List.take_left' (by simp[hil]),icN_end]
  have hin:i<l.length:=by omega
  refine (Any2.slices_Insert_int_shift Tryz.laysNm221 g 0 l.length cap i w.heap.size 0 1 1 (icN l) [.int .i64 (x:Int)] W hin (by decide) hroom (by unfold maxLen at hcm;omega) hgw.symm hil rfl hcells (fun j hj=>hsp j (by omega)) (fun j _=>hfz j) hcell (icN_one l) hone
   3 3 1 cap (by simp[World.shape?,hnew]) (by simp[World.shape?,hg,hcs]) (by omega) (by simp[World.frozen?,hnew]) (by simp[World.frozen?,hnew])).mono ?_
  rintro e w' ⟨rfl,rfl⟩
  have hdl:((icN l).drop i).length=l.length-i:=by rw[List.length_drop,hil]
  obtain ⟨c1,h1,h2⟩:=row_setCells g 3 ((icN l).drop i) (0+(i+1)) W.drew cur hg (by omega)
  have s1:c1.size=cap:=by rw[list_size h2];simp;omega
  obtain ⟨c2,h3,h4⟩:=row_setCells g 3 [.int .i64 (x:Int)] (0+i) (W.drew.setCells g (0+(i+1)) ((icN l).drop i)) c1 h1 (by simp;omega)
  have t1:c1.toList.take i=(icN l).take i:=by
   rw[h2,List.take_append_of_le_length (by simp;omega),List.take_take,←htake,List.take_take]
   congr 1
   omega
  have t2:c1.toList.drop (i+1)=(icN l).drop i++cur.toList.drop (0+(i+1)+((icN l).drop i).length):=by
   rw[h2,List.drop_left' (by simp;omega)]
  have t3:c2.toList=icN (insAt i x l)++cur.toList.drop (0+(i+1)+((icN l).drop i).length):=by
   rw[h4,icN_ins,Nat.zero_add]
   simp only[List.length_singleton]
   rw[t1,t2]
   simp
  refine ⟨_,rfl,⟨hlen,.inr ⟨g,cap,c2,rfl,hb,h3,hroom,hcm,?_,?_⟩⟩,setCells_below hb _ _ _ _ (setCells_below hb _ _ _ _ hbW.drew)⟩
  ·rw[list_size h4]
   simp
   omega
  rw[Nat.mul_one,t3,List.take_left' (by rw[icN_length,insAt_length])]
 by_cases hend:i=l.length
 ·subst hend
  refine (Any2.slices_Insert_int_end_grow Tryz.laysNm221 (some ⟨g,0,none⟩) l.length cap w.heap.size 0 1 1 (icN l) [.int .i64 (x:Int)] W (by decide) hnc (by omega) (by omega) hil rfl (fun h=>by cases h) (fun a ha j u hj=>by cases ha;rw[Addr.add_lit];exact hcells j u hj) hcell hone).mono ?_
  rintro e w' ⟨rfl,rfl⟩
  have hc:=grownCap_ge W (l.length+1) cap 3
  refine ⟨_,rfl,⟨hlen,.inr ⟨W.heap.size,_,_,rfl,by omega,heap_alloc_new W.drew _,hc,grownCap_le_maxLen W _ _ _ (by unfold maxLen;omega),?_,?_⟩⟩,hbW.trans (((Below.refl B W).drew).alloc (by show B≤W.heap.size;omega) _)⟩
  ·show ((icN l++[Value.int .i64 (x:Int)]).toArray++Builtin.zeroCells (Value.int .i64 0).cells (grownCap W (l.length+1) cap 3-(l.length+1))).size=grownCap W (l.length+1) cap 3*1
   rw[Array.size_append,zeros_size _ _ rfl]
   simp
   omega
  rw[Nat.mul_one,Array.toList_append,List.take_left' (by simp[hil]),icN_end]
 have hin:i<l.length:=by omega
 have hct:=Any2.slices_Insert_int_grow Tryz.laysNm221 g 0 l.length cap i w.heap.size 0 1 1 (icN l) [.int .i64 (x:Int)] W hin (by decide) hnc (by omega) (by omega) hil rfl hcells hcell (icN_one l) hone
 simp only[show Tryz.laysNm221_ren.t 3=3 from rfl]at hct
 refine hct.mono ?_
 rintro e w' ⟨rfl,rfl⟩
 have hdl:((icN l).drop i).length=l.length-i:=by rw[List.length_drop,hil]
 have hc:=grownCap_ge W (l.length+1) cap 3
 have hc2:=grownCap_le_maxLen W (l.length+1) cap 3 (by unfold maxLen;omega)
 have hlen0:(((icN l).take i).toArray++Builtin.zeroCells (Value.int .i64 0).cells (l.length+1-i)++Builtin.zeroCells (Value.int .i64 0).cells (grownCap W (l.length+1) cap 3-(l.length+1))).size=grownCap W (l.length+1) cap 3:=by
  rw[Array.size_append,Array.size_append,zeros_size _ _ rfl,zeros_size _ _ rfl]
  simp
  omega
 have htk:(((icN l).take i).toArray++Builtin.zeroCells (Value.int .i64 0).cells (l.length+1-i)++Builtin.zeroCells (Value.int .i64 0).cells (grownCap W (l.length+1) cap 3-(l.length+1))).toList.take i=(icN l).take i:=by
  rw[Array.toList_append,Array.toList_append,List.append_assoc,List.take_left' (by simp;omega)]
 generalize ((icN l).take i).toArray++Builtin.zeroCells (Value.int .i64 0).cells (l.length+1-i)++Builtin.zeroCells (Value.int .i64 0).cells (grownCap W (l.length+1) cap 3-(l.length+1))=c0 at hlen0 htk⊢
 generalize grownCap W (l.length+1) cap 3=gc at hc hc2 hlen0⊢
 obtain ⟨c1,h1,h2⟩:=row_setCells W.heap.size 3 [.int .i64 (x:Int)] i (W.alloc (.cells c0 3)).drew c0 (heap_alloc_new W _) (by simp;omega)
 have s1:c1.size=gc:=by rw[list_size h2];simp;omega
 obtain ⟨c2,h3,h4⟩:=row_setCells W.heap.size 3 ((icN l).drop i) (i+1) ((W.alloc (.cells c0 3)).drew.setCells W.heap.size i [.int .i64 (x:Int)]).drew c1 h1 (by omega)
 have t1:c1.toList.take (i+1)=(icN l).take i++[Value.int .i64 (x:Int)]:=by
  rw[h2,htk,←List.append_assoc,List.take_left' (by simp;omega)]
 have t3:c2.toList=icN (insAt i x l)++c1.toList.drop (i+1+((icN l).drop i).length):=by
  rw[h4,icN_ins,t1]
  simp
 refine ⟨_,rfl,⟨hlen,.inr ⟨W.heap.size,gc,c2,rfl,by omega,h3,hc,hc2,?_,?_⟩⟩,setCells_below (by omega) _ _ _ _ (Below.drew (setCells_below (by omega) _ _ _ _ (Below.drew (hbW.alloc (by omega) _))))⟩
 ·rw[list_size h4]
  simp
  omega
 rw[Nat.mul_one,t3,List.take_left' (by rw[icN_length,insAt_length])]
end Go.Proofs.YtijliddchoehhaaGreatDoor
namespace Go.Proofs.YtijliddchoehhaaGreatDoor
open Go.RowKit Go.Shelf
attribute [local go_sem] Oper.semAt_some
def cutL(bias:Nat):Nat→Nat→Nat→List Nat→Option (Nat×List Nat)
 |_,_,_,[]=>none
 |k,i,w,d::ds=>if 36≤d∨66846660<i+d*w then none else if d<limN k bias then some (i+d*w,ds)else cutL bias (k+36) (i+d*w) (w*(36-limN k bias)) ds
theorem readL_ge(bias:Nat): ∀(ds:List Nat) (k i w m:Nat) (r:List Nat),readL bias k i w ds=some (m,r)→i≤m
 |[],k,i,w,m,r,h=>by simp[readL]at h
 |d::ds,k,i,w,m,r,h=>by
  rw[readL]at h
  split at h
  ·cases h
  split at h
  ·cases h
   omega
  have:=readL_ge bias ds _ _ _ _ _ h
  omega
theorem cut_of_read(bias:Nat): ∀(ds:List Nat) (k i w m:Nat) (r:List Nat),readL bias k i w ds=some (m,r)→m≤66846660→cutL bias k i w ds=some (m,r)
 |[],k,i,w,m,r,h,_=>by simp[readL]at h
 |d::ds,k,i,w,m,r,h,hm=>by
  rw[readL]at h
  rw[cutL]
  split at h
  ·cases h
  next h0=>
  split at h
  ·next h1=>
   cases h
   rw[if_neg (by omega),if_pos h1]
  next h1=>
  have:=readL_ge bias ds _ _ _ _ _ h
  rw[if_neg (by omega),if_neg h1]
  exact cut_of_read bias ds _ _ _ _ _ h hm
theorem ix36: ∀c,c<256→Lib.indexByte [97,98,99,100,101,102,103,104,105,106,107,108,109,110,111,112,113,114,115,116,117,118,119,120,121,122,48,49,50,51,52,53,54,55,56,57] c.toUInt8=if valB c<36 then (valB c:Int)else-1:=by decide+kernel
theorem load1{P:Program}{w:World}{t:TypeId}{b:Nat}{v:Value}(ha: ∀w,(isAgg t).run P w=.ok false w)(h:w.cell? ⟨b,0,none⟩=some v):(loadVar t ⟨b,0,none⟩).run P w=.ok v w:=by
 simp[loadVar,go_sem,ha,h]
theorem results_cell3{P:Program}{fn:Func}{p q r:Tmp}{t1 t2 t3:TypeId}(h:fn.results= #[.cell p t1,.cell q t2,.cell r t3])(tmps:Array Value)(w:World)(b1 b2 b3:Nat)(v1 v2 v3:Value)
  (hp:tmps[p]?.getD undef=.pointer (some ⟨b1,0,none⟩)) (hq:tmps[q]?.getD undef=.pointer (some ⟨b2,0,none⟩)) (hr:tmps[r]?.getD undef=.pointer (some ⟨b3,0,none⟩))
  (l1:(loadVar t1 ⟨b1,0,none⟩).run P w=.ok v1 w) (l2:(loadVar t2 ⟨b2,0,none⟩).run P w=.ok v2 w) (l3:(loadVar t3 ⟨b3,0,none⟩).run P w=.ok v3 w):
  (results fn tmps).run P w=.ok (.tuple #[v1,v2,v3]) w:=by
 simp[results,h,hp,hq,hr,asAddr,l1,l2,l3,Sem.run_bind,Result.andThen]
def cutAns(s0:ByteArray)(bias:Nat)(e:Ending):Prop:=
 (cutL bias 36 0 1 ((sN s0).map valB)=none∧e=.returned (.tuple #[.int .i64 0,.string ⟨#[]⟩,.bool false]))∨
 ∃(m:Nat) (u:ByteArray),cutL bias 36 0 1 ((sN s0).map valB)=some (m,(sN u).map valB)∧m≤66846660∧u.size<s0.size∧e=.returned (.tuple #[.int .i64 (m:Int),.string u,.bool true])
def CutI(n0:Nat)(w:World)(s0:ByteArray)(bias k:Nat)(W:World):Prop:=
 ∃(u:ByteArray) (i wt:Nat),Boxed W n0 9 (.string u)∧Boxed W (n0+1) 3 (.int .i64 (i:Int))∧Boxed W (n0+2) 9 (.string ⟨#[]⟩)∧Boxed W (n0+3) 4 (.bool false)∧Boxed W (n0+4) 3 (.int .i64 (wt:Int))∧Boxed W (n0+5) 3 (.int .i64 (bias:Int))∧
  u.size+k=s0.size∧i≤66846660∧wt≤2339633100∧cutL bias (36*(k+1)) i wt ((sN u).map valB)=cutL bias 36 0 1 ((sN s0).map valB)∧Below n0 w W
def CutX(n0:Nat)(w:World)(s0:ByteArray)(bias:Nat)(c:Code)(W:World):Prop:=
 ((c=.ret∧Boxed W (n0+1) 3 (.int .i64 0)∧Boxed W (n0+2) 9 (.string ⟨#[]⟩)∧Boxed W (n0+3) 4 (.bool false)∧cutL bias 36 0 1 ((sN s0).map valB)=none)∨
  (c=.exit 0∧ ∃(u:ByteArray) (m:Nat),Boxed W n0 9 (.string u)∧Boxed W (n0+1) 3 (.int .i64 (m:Int))∧Boxed W (n0+2) 9 (.string ⟨#[]⟩)∧Boxed W (n0+3) 4 (.bool false)∧
   cutL bias 36 0 1 ((sN s0).map valB)=some (m,(sN u).map valB)∧m≤66846660∧u.size<s0.size))∧Below n0 w W
theorem cutI_own{n0 b:Nat}{w:World}{s0:ByteArray}{bias:Nat}(hB:n0≤b)(hs:n0≤w.heap.size):OwnFrom b (CutI n0 w s0 bias):=by
 rintro k W V row ⟨u,i,wt,h1,h2,h3,h4,h5,h6,a1,a2,a3,a4,h10⟩ hg hr
 have hr':=fun r e=>(hr r e).2
 exact ⟨u,i,wt,box_keep h1 hg hr',box_keep h2 hg hr',box_keep h3 hg hr',box_keep h4 hg hr',box_keep h5 hg hr',box_keep h6 hg hr',a1,a2,a3,a4,below_keep h10 hg hB hs hr⟩
theorem cutX_own{n0 b:Nat}{w:World}{s0:ByteArray}{bias:Nat}(hB:n0≤b)(hs:n0≤w.heap.size)(c:Code):OwnFrom b (fun (_:Unit)=>CutX n0 w s0 bias c):=by
 rintro _ W V row ⟨h,h10⟩ hg hr
 have hr':=fun r e=>(hr r e).2
 refine ⟨?_,below_keep h10 hg hB hs hr⟩
 rcases h with ⟨hc,h2,h3,h4,a1⟩|⟨hc,u,m,h1,h2,h3,h4,a1,a2,a3⟩
 ·exact .inl ⟨hc,box_keep h2 hg hr',box_keep h3 hg hr',box_keep h4 hg hr',a1⟩
 exact .inr ⟨hc,u,m,box_keep h1 hg hr',box_keep h2 hg hr',box_keep h3 hg hr',box_keep h4 hg hr',a1,a2,a3⟩
theorem cix(d:Nat)(hd:d<256)(W:World):Calls Tryz.prog 167 #[.string ⟨#[97,98,99,100,101,102,103,104,105,106,107,108,109,110,111,112,113,114,115,116,117,118,119,120,121,122,48,49,50,51,52,53,54,55,56,57]⟩,.int .u8 (d:Int)] W
  fun e w'=>e=.returned (.int .i64 (if valB d<36 then (valB d:Int)else-1))∧W=w':=by
 refine (Tryz.strings_IndexByte _ _ W).mono ?_
 rintro e w' ⟨rfl,rfl⟩
 refine ⟨?_,rfl⟩
 rw[Int.toNat_natCast,←ix36 d hd]
theorem sN_cut(u:ByteArray)(h:0<u.size):sN u=u[0].toNat::sN (u.extract 1 u.size):=by
 have h1:=sN_drop u 0 h
 rw[List.drop_zero]at h1
 rw[h1]
 congr 1
 have hl:(sN u).length=u.size:=sN_length u
 simp only[sN,ByteArray.data_extract,Array.toList_extract,List.map_drop,List.map_take,List.extract_eq_take_drop]at hl⊢
 rw[List.take_of_length_le (by simp at hl⊢)]
theorem sN_zero{u:ByteArray}(h:u.size=0):sN u=[]:=List.eq_nil_of_length_eq_zero ((sN_length u).trans h)
theorem below_box{n0:Nat}{w W:World}(h:Below n0 w W)(j:Nat)(v:Value):Below n0 w (W.setCell ⟨n0+j,0,none⟩ v):=h.setCell (p:=⟨n0+j,0,none⟩) (Nat.le_add_right _ _) v
theorem implCut_in(n:Nat)(hn:3≤n)(s0:ByteArray)(bias:Nat)(w:World)(hs:(s0.size:Int)≤600)(hb:(bias:Int)≤2400):
  CallsIn Fence.wide n Tryz.prog 160 #[.string s0,.int .i64 (bias:Int)] w fun e w'=>cutAns s0 bias e∧Below w.heap.size w w':=by
 have hb0:0≤(bias:Int):=by omega
 have h1:1≤n:=by omega
 have hmx:Tryz.prog.follows .mixedOrders=true:=by kernel_rfl
 refine callsIn_of_wp_marks Tryz.func160 rfl trivial ?_ rfl
 simp only[Tryz.ntmps160,List.size_toArray,List.length_cons,List.length_nil,Nat.reduceAdd,Nat.reduceSub,Array.replicate_succ,Array.replicate_zero,List.push_toArray,List.append_toArray,List.nil_append,List.cons_append]
 gi_wp2_with (refine ⟨trivial,?_⟩;gi_at_call 157;refine (thr_in Fence.wide (n-1) trivial rfl _ _).mono ?_;rintro e w' ⟨rfl,rfl⟩)
 obtain ⟨W0,hW0⟩: ∃W0,((((((w.alloc (.cells #[.string s0] 9)).alloc (.cells #[.int .i64 0] 3)).alloc (.cells #[.string ⟨#[]⟩] 9)).alloc (.cells #[.bool false] 4)).alloc (.cells #[.int .i64 1] 3)).alloc (.cells #[.int .i64 (bias:Int)] 3))=W0:=⟨_,rfl⟩
 have hsz:W0.heap.size=w.heap.size+6:=by rw[←hW0];simp
 have hI0:CutI w.heap.size w s0 bias 0 W0:=by
  rw[←hW0]
  refine ⟨s0,0,1,?_,?_,?_,?_,?_,?_,rfl,by omega,by omega,rfl,?_⟩
  ·exact (((((Boxed.new w _ _).alloc _).alloc _).alloc _).alloc _).alloc _
  ·have h:=Boxed.new (w.alloc (.cells #[.string s0] 9)) 3 (.int .i64 0)
   simp only[World.size_alloc]at h
   exact (((h.alloc _).alloc _).alloc _).alloc _
  ·have h:=Boxed.new ((w.alloc (.cells #[.string s0] 9)).alloc (.cells #[.int .i64 0] 3)) 9 (.string ⟨#[]⟩)
   simp only[World.size_alloc]at h
   exact ((h.alloc _).alloc _).alloc _
  ·have h:=Boxed.new (((w.alloc (.cells #[.string s0] 9)).alloc (.cells #[.int .i64 0] 3)).alloc (.cells #[.string ⟨#[]⟩] 9)) 4 (.bool false)
   simp only[World.size_alloc]at h
   exact (h.alloc _).alloc _
  ·have h:=Boxed.new ((((w.alloc (.cells #[.string s0] 9)).alloc (.cells #[.int .i64 0] 3)).alloc (.cells #[.string ⟨#[]⟩] 9)).alloc (.cells #[.bool false] 4)) 3 (.int .i64 1)
   simp only[World.size_alloc]at h
   exact h.alloc _
  ·have h:=Boxed.new (((((w.alloc (.cells #[.string s0] 9)).alloc (.cells #[.int .i64 0] 3)).alloc (.cells #[.string ⟨#[]⟩] 9)).alloc (.cells #[.bool false] 4)).alloc (.cells #[.int .i64 1] 3)) 3 (.int .i64 (bias:Int))
   simp only[World.size_alloc]at h
   exact h
  exact ((((((Below.refl _ w).alloc (Nat.le_refl _) _).alloc (by simp) _).alloc (by simp;omega) _).alloc (by simp;omega) _).alloc (by simp;omega) _).alloc (by simp;omega) _
 rw[hW0]
 clear hW0
 refine wpIn_endless rfl h1 (gf:=165) (lb:= #[.pointer (some ⟨w.heap.size+5,0,none⟩)]) (by rfl) trivial (enters_of Tryz.func165 (by kernel_rfl) rfl)
  (thr1_in Fence.wide (n-1) trivial rfl (by omega) (w.heap.size+5) bias 601 hb (by decide)) (CutI w.heap.size w s0 bias) (CutX w.heap.size w s0 bias) (cutI_own (by omega) (Nat.le_refl _)) (cutX_own (by omega) (Nat.le_refl _)) ?hC hI0
  (fun k=>{tmps:= #[.string s0,.int .i64 (bias:Int),.pointer (some ⟨w.heap.size,0,none⟩),undef,.pointer (some ⟨w.heap.size+1,0,none⟩),.pointer (some ⟨w.heap.size+2,0,none⟩),.pointer (some ⟨w.heap.size+3,0,none⟩),.pointer (some ⟨w.heap.size+4,0,none⟩),.int .i64 (thrN bias k:Int),undef,.int .i64 (bias:Int),.func (.func 165) #[] #[.pointer (some ⟨w.heap.size+5,0,none⟩)],.int .i64 (thrN bias k:Int),undef,undef,undef,undef,undef,undef,undef,undef,undef,undef,undef,undef,undef,undef,undef,undef,undef,undef,undef,undef,undef,undef,undef,undef,undef,undef,undef],defers:=[]}) ?assign ?body ?stop
 case hC=>
  rintro k V ⟨u,i,wt,_,_,_,_,_,h6,a1,_⟩
  exact ⟨by omega,h6.cell⟩
 case assign=>
  intro l k W K hK
  gi_wp2
  exact hK
 case body=>
  rintro l k W ⟨u,i,wt,b1,b2,b3,b4,b5,b6,a1,a2,a3,a4,hbel⟩
  have HA:Hid (cutL bias (36*(k+1)) i wt ((sN u).map valB)=cutL bias 36 0 1 ((sN s0).map valB)):=a4
  clear a4
  obtain ⟨l1,l2⟩:=lim_le (36*(k+1)) bias
  have hc1:=b1.cell
  have hc2:=b2.cell
  have hc3:=b3.cell
  have hc4:=b4.cell
  have hc5:=b5.cell
  have hf1:=b1.frozen
  have hf2:=b2.frozen
  have hf3:=b3.frozen
  have hf4:=b4.frozen
  have hf5:=b5.frozen
  unfold thrN
  have K0: ∀V:World,KeepsFrom W0.heap.size V V:=fun V=>KeepsFrom.refl _ _
  by_cases hu:u.size=0
  ·have he:=empty_yes hu
   have HN:Hid (cutL bias 36 0 1 ((sN s0).map valB)=none):=by
    show _=_
    rw[←HA.out,sN_zero hu]
    rfl
   gi_wp2
   refine ⟨((KeepsOthers.setCell _ _ _).trans ((KeepsOthers.setCell _ _ _).trans (KeepsOthers.setCell _ _ _))).from _,.inl ⟨rfl,?_,?_,?_,HN.out⟩,?_⟩
   ·exact ((b2.set _).other (by omega) _).other (by omega) _
   ·exact ((b3.other (by omega) _).set _).other (by omega) _
   ·exact ((b4.other (by omega) _).other (by omega) _).set _
   exact below_box (below_box (below_box hbel 1 _) 2 _) 3 _
  have hu0:0<u.size:=by omega
  have he:=empty_no hu0
  have hcut:=sN_cut u hu0
  have hl:(u.extract 1 u.size).size=u.size-1:=by simp
  obtain ⟨d,hd⟩: ∃d:Nat,u[0].toNat=d:=⟨_,rfl⟩
  have hd1:d<256:=by rw[←hd];exact u[0].toNat_lt
  rw[hd]at hcut
  have HA2:Hid (cutL bias 36 0 1 ((sN s0).map valB)=cutL bias (36*(k+1)) i wt (valB d::(sN (u.extract 1 u.size)).map valB)):=by
   show _=_
   rw[←HA.out,hcut]
   rfl
  have hc:=cix d hd1
  have hvl:=valB_le d
  clear hcut hu
  generalize valB d=v at HA2 hc hvl
  by_cases hv:v<36
  ·rw[if_pos hv]at hc
   have CI:Hid (∀W,CS 167 #[.string ⟨#[97,98,99,100,101,102,103,104,105,106,107,108,109,110,111,112,113,114,115,116,117,118,119,120,121,122,48,49,50,51,52,53,54,55,56,57]⟩,.int .u8 (d:Int)] W (.int .i64 (v:Int))):=hc
   clear hc
   obtain ⟨pr,hpr⟩: ∃pr:Nat,v*wt=pr:=⟨_,rfl⟩
   have hple:pr≤35*2339633100:=by rw[←hpr];exact Nat.mul_le_mul (by omega) (by omega)
   have hP:(v:Int)*(wt:Int)=(pr:Int):=by rw[←hpr];norm_cast
   have hge:1≤v→wt≤pr:=fun h=>by rw[←hpr];exact Nat.le_mul_of_pos_left _ h
   have hpI:(pr:Int)≤81887158500:=by omega
   have hiI:(i:Int)≤66846660:=by omega
   have hi0:0≤(i:Int):=by omega
   have hp0:0≤(pr:Int):=by omega
   have hv0: ¬(v:Int)<0:=by omega
   have HA3:Hid (cutL bias 36 0 1 ((sN s0).map valB)=if 66846660<i+pr then none else if v<limN (36*(k+1)) bias then some (i+pr,(sN (u.extract 1 u.size)).map valB)else cutL bias (36*(k+1+1)) (i+pr) (wt*(36-limN (36*(k+1)) bias)) ((sN (u.extract 1 u.size)).map valB)):=by
    show _=_
    rw[HA2.out,cutL,hpr,show 36*(k+1+1)=36*(k+1)+36 by omega]
    by_cases hx:66846660<i+pr
    ·rw[if_pos (.inr hx),if_pos hx]
    rw[if_neg (by omega),if_neg hx]
   generalize limN (36*(k+1)) bias=t at l1 l2 HA3
   clear hpr HA2 HA
   by_cases hbig:66846660<(i:Int)+(pr:Int)
   ·have HN:Hid (cutL bias 36 0 1 ((sN s0).map valB)=none):=by
     show _=_
     rw[HA3.out,if_pos (by omega)]
    gi_wp2_with fail
    refine ⟨trivial,fun h=>(by cases h),?_⟩
    refine (CallsIn.inRound l (callsIn_wide.2 (CI.out _))).mono ?_
    rintro e w' ⟨rfl,rfl⟩
    gi_wp2_with fail
    refine ⟨((KeepsOthers.setCell _ _ _).trans ((KeepsOthers.setCell _ _ _).trans ((KeepsOthers.setCell _ _ _).trans (KeepsOthers.setCell _ _ _)))).from _,.inl ⟨rfl,?_,?_,?_,HN.out⟩,?_⟩
    ·exact (((b2.set _).set _).other (by omega) _).other (by omega) _
    ·exact (((b3.other (by omega) _).other (by omega) _).set _).other (by omega) _
    ·exact (((b4.other (by omega) _).other (by omega) _).other (by omega) _).set _
    exact below_box (below_box (below_box (below_box hbel 1 _) 1 _) 2 _) 3 _
   have hbi:(i:Int)+(pr:Int)≤66846660:=by omega
   by_cases hvt:(v:Int)<(t:Int)
   ·have HN:Hid (cutL bias 36 0 1 ((sN s0).map valB)=some (i+pr,(sN (u.extract 1 u.size)).map valB)):=by
     show _=_
     rw[HA3.out,if_neg (by omega),if_pos (by omega)]
    gi_wp2_with fail
    refine ⟨trivial,fun h=>(by cases h),?_⟩
    refine (CallsIn.inRound l (callsIn_wide.2 (CI.out _))).mono ?_
    rintro e w' ⟨rfl,rfl⟩
    gi_wp2_with fail
    refine ⟨((KeepsOthers.setCell _ _ _).trans (KeepsOthers.setCell _ _ _)).from _,.inr ⟨rfl,u.extract 1 u.size,i+pr,?_,?_,?_,?_,HN.out,by omega,by omega⟩,?_⟩
    ·exact (b1.other (by omega) _).set _
    ·exact ((b2.set _).other (by omega) _)
    ·exact (b3.other (by omega) _).other (by omega) _
    ·exact (b4.other (by omega) _).other (by omega) _
    exact below_box (below_box hbel 1 _) 0 _
   have HN:Hid (cutL bias (36*(k+1+1)) (i+pr) (wt*(36-t)) ((sN (u.extract 1 u.size)).map valB)=cutL bias 36 0 1 ((sN s0).map valB)):=by
    show _=_
    rw[HA3.out,if_neg (by omega),if_neg (by omega)]
   have hwp:wt≤66846660:=by have:=hge (by omega);omega
   obtain ⟨w2,hw2⟩: ∃w2:Nat,wt*(36-t)=w2:=⟨_,rfl⟩
   have hw2l:w2≤2339633100:=by rw[←hw2];exact Nat.le_trans (Nat.mul_le_mul hwp (show 36-t≤35 by omega)) (by decide)
   have hW2:(wt:Int)*(36-(t:Int))=(w2:Int):=by rw[←hw2,show (36:Int)-(t:Int)=((36-t:Nat):Int) by omega];norm_cast
   rw[hw2]at HN
   clear hw2
   gi_wp2_with fail
   refine ⟨trivial,fun h=>(by cases h),?_⟩
   refine (CallsIn.inRound l (callsIn_wide.2 (CI.out _))).mono ?_
   rintro e w' ⟨rfl,rfl⟩
   gi_wp2_with fail
   refine ⟨((KeepsOthers.setCell _ _ _).trans ((KeepsOthers.setCell _ _ _).trans (KeepsOthers.setCell _ _ _))).from _,u.extract 1 u.size,i+pr,w2,?_,?_,?_,?_,?_,?_,by omega,by omega,hw2l,HN.out,?_⟩
   ·exact ((b1.other (by omega) _).set _).other (by omega) _
   ·exact ((b2.set _).other (by omega) _).other (by omega) _
   ·exact ((b3.other (by omega) _).other (by omega) _).other (by omega) _
   ·exact ((b4.other (by omega) _).other (by omega) _).other (by omega) _
   ·exact ((b5.other (by omega) _).other (by omega) _).set _
   ·exact ((b6.other (by omega) _).other (by omega) _).other (by omega) _
   exact below_box (below_box (below_box hbel 1 _) 0 _) 4 _
  rw[if_neg hv]at hc
  have CI:Hid (∀W,CS 167 #[.string ⟨#[97,98,99,100,101,102,103,104,105,106,107,108,109,110,111,112,113,114,115,116,117,118,119,120,121,122,48,49,50,51,52,53,54,55,56,57]⟩,.int .u8 (d:Int)] W (.int .i64 (-1))):=hc
  clear hc
  have HN:Hid (cutL bias 36 0 1 ((sN s0).map valB)=none):=by
   show _=_
   rw[HA2.out,cutL,if_pos (by omega)]
  gi_wp2_with fail
  refine ⟨trivial,fun h=>(by cases h),?_⟩
  refine (CallsIn.inRound l (callsIn_wide.2 (CI.out _))).mono ?_
  rintro e w' ⟨rfl,rfl⟩
  gi_wp2_with fail
  refine ⟨((KeepsOthers.setCell _ _ _).trans ((KeepsOthers.setCell _ _ _).trans ((KeepsOthers.setCell _ _ _).trans (KeepsOthers.setCell _ _ _)))).from _,.inl ⟨rfl,?_,?_,?_,HN.out⟩,?_⟩
  ·exact (((b2.set _).set _).other (by omega) _).other (by omega) _
  ·exact (((b3.other (by omega) _).other (by omega) _).set _).other (by omega) _
  ·exact (((b4.other (by omega) _).other (by omega) _).other (by omega) _).set _
  exact below_box (below_box (below_box (below_box hbel 1 _) 1 _) 2 _) 3 _
 case stop=>
  rintro D c W hD ⟨⟨rfl,b2,b3,b4,hno⟩|⟨rfl,u,m,b1,b2,b3,b4,hyes,hm,hlt⟩,hbel⟩ hK
  ·gi_wp2
   refine ⟨by simp,.inl ⟨_,_,rfl,run_takeDeferred hK,?_⟩⟩
   have hb':Below w.heap.size w (W.putObj D (.deferred none)):=hbel.trans (belowK_b (w:=w) (Nat.le_refl _) W D _ _ (by omega) hK rfl rfl)
   have hp:=fun {b:Nat} {t:TypeId} {v:Value} (h:Boxed W b t v)=>(box_keep h (grownBy_putObj' W D (.deferred none)) (fun r e=>by cases e;exact ⟨_,hK,rfl⟩)).cell
   exact ⟨_,results_cell3 rfl _ _ _ _ _ _ _ _ rfl rfl rfl (load1 Tryz.isAgg3 (hp b2)) (load1 Tryz.isAgg9 (hp b3)) (load1 Tryz.isAgg4 (hp b4)),.inl ⟨hno,rfl⟩,hb'⟩
  have hc1:=b1.cell
  have hc2:=b2.cell
  have hc3:=b3.cell
  have hc4:=b4.cell
  have hf2:=b2.frozen
  have hf3:=b3.frozen
  have hf4:=b4.frozen
  gi_wp2
  gi_region
  all_goals
   gi_wp2
   have c2:=((b2.set (.int .i64 (m:Int))).other (B':=w.heap.size+2) (by omega) (.string u)).other (B':=w.heap.size+3) (by omega) (.bool true)
   have c3:=((b3.other (B':=w.heap.size+1) (by omega) (.int .i64 (m:Int))).set (.string u)).other (B':=w.heap.size+3) (by omega) (.bool true)
   have c4:=((b4.other (B':=w.heap.size+1) (by omega) (.int .i64 (m:Int))).other (B':=w.heap.size+2) (by omega) (.string u)).set (.bool true)
   have hbel2:Below w.heap.size w (((W.setCell ⟨w.heap.size+1,0,none⟩ (.int .i64 (m:Int))).setCell ⟨w.heap.size+2,0,none⟩ (.string u)).setCell ⟨w.heap.size+3,0,none⟩ (.bool true)).drew:=(below_box (below_box (below_box hbel 1 _) 2 _) 3 _).drew
   have hK2:(((W.setCell ⟨w.heap.size+1,0,none⟩ (.int .i64 (m:Int))).setCell ⟨w.heap.size+2,0,none⟩ (.string u)).setCell ⟨w.heap.size+3,0,none⟩ (.bool true)).drew.heap[D]? =some (.deferred (some [])):=
    ((KeepsOthers.setCell W _ _).trans ((KeepsOthers.setCell _ _ _).trans ((KeepsOthers.setCell _ _ _).trans (KeepsOthers.drew _)))).same D _ hK rfl
   have c2':Boxed (((W.setCell ⟨w.heap.size+1,0,none⟩ (.int .i64 (m:Int))).setCell ⟨w.heap.size+2,0,none⟩ (.string u)).setCell ⟨w.heap.size+3,0,none⟩ (.bool true)).drew (w.heap.size+1) 3 (.int .i64 (m:Int)):=c2
   have c3':Boxed (((W.setCell ⟨w.heap.size+1,0,none⟩ (.int .i64 (m:Int))).setCell ⟨w.heap.size+2,0,none⟩ (.string u)).setCell ⟨w.heap.size+3,0,none⟩ (.bool true)).drew (w.heap.size+2) 9 (.string u):=c3
   have c4':Boxed (((W.setCell ⟨w.heap.size+1,0,none⟩ (.int .i64 (m:Int))).setCell ⟨w.heap.size+2,0,none⟩ (.string u)).setCell ⟨w.heap.size+3,0,none⟩ (.bool true)).drew (w.heap.size+3) 4 (.bool true):=c4
   generalize (((W.setCell ⟨w.heap.size+1,0,none⟩ (.int .i64 (m:Int))).setCell ⟨w.heap.size+2,0,none⟩ (.string u)).setCell ⟨w.heap.size+3,0,none⟩ (.bool true)).drew=V at hbel2 hK2 c2' c3' c4'⊢
   refine ⟨by simp,.inl ⟨_,_,rfl,run_takeDeferred hK2,?_⟩⟩
   have hb':Below w.heap.size w (V.putObj D (.deferred none)):=hbel2.trans (belowK_b (w:=w) (Nat.le_refl _) V D _ _ (by omega) hK2 rfl rfl)
   have hp:=fun {b:Nat} {t:TypeId} {v:Value} (h:Boxed V b t v)=>(box_keep h (grownBy_putObj' V D (.deferred none)) (fun r e=>by cases e;exact ⟨_,hK2,rfl⟩)).cell
   exact ⟨_,results_cell3 rfl _ _ _ _ _ _ _ _ rfl rfl rfl (load1 Tryz.isAgg3 (hp c2')) (load1 Tryz.isAgg9 (hp c3')) (load1 Tryz.isAgg4 (hp c4')),.inr ⟨m,u,hyes,hm,hlt,rfl⟩,hb'⟩
theorem implCut(s0:ByteArray)(bias:Nat)(w:World)(hs:(s0.size:Int)≤600)(hb:(bias:Int)≤2400):
  Calls Tryz.prog 160 #[.string s0,.int .i64 (bias:Int)] w fun e w'=>cutAns s0 bias e∧Below w.heap.size w w':=
 callsIn_wide.1 (implCut_in 3 (Nat.le_refl _) s0 bias w hs hb)
end Go.Proofs.YtijliddchoehhaaGreatDoor
