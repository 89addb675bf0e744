/- TokTop. -/
import Derived.Test.YtfdgehlobbeomaaGreatDoorQM22
import Derived.Scope
set_option maxHeartbeats 4000000
set_option maxRecDepth 100000
namespace Go.Proofs.YtfdgehlobbeomaaGreatDoor
open Go.RowKit Go.Shelf
attribute [local go_sem] Oper.semAt_some
set_option linter.unusedVariables false
set_option linter.unusedSimpArgs false
theorem tbox_keep{W V:World}{row:Option Nat}{b:Nat}{t:TypeId}{v:Value}(h:Boxed W b t v)(hg:W.grownBy V row)(hr: ∀r,row=some r→ ∃o:Obj,W.heap[r]? =some o∧o.isCells=false):Boxed V b t v:=by
 refine h.kept hg fun e=> ?_
 obtain ⟨o,ho,hc⟩:=hr b e.symm
 rw[show W.heap[b]? =_ from h]at ho
 cases ho
 cases hc
theorem trow_keep{W V:World}{row:Option Nat}{B:Nat}{e:TypeId}{z:Nat}{v:Value}{n:Nat}{xs:List Value}(h:W.ownsRow B e z v n xs)(hg:W.grownBy V row)(hr: ∀r,row=some r→ ∃o:Obj,W.heap[r]? =some o∧o.isCells=false):V.ownsRow B e z v n xs:=by
 refine h.kept hg ?_
 rcases h.2 with ⟨rfl,_⟩|⟨g,cap,cur,rfl,_,hgb,_⟩
 ·exact .inl rfl
 refine .inr fun e'=> ?_
 obtain ⟨o,ho,hc⟩:=hr g (by simpa[Value.ownBlock] using e'.symm)
 rw[hgb]at ho
 cases ho
 cases hc
theorem tbelow_keep{B b:Nat}{w W V:World}{row:Option Nat}(h:Below B w W)(hg:W.grownBy V row)(hB:B≤b)(hs:B≤w.heap.size)(hr: ∀r,row=some r→b≤r∧ ∃o:Obj,W.heap[r]? =some o∧o.isCells=false):Below B w V:=
 h.grown hg (Nat.le_trans hs h.size) (fun k e=>Nat.le_trans hB (hr k e).1)
def TokI(B b1 b3 b4:Nat)(w:World)(pre:List TX)(W:World):Prop:=
 (∀x∈pre,x.2=0)∧ ∃(n g cap:Nat) (z:Int),n=min pre.length 3000∧z=(if 3000<pre.length then 3 else 0)∧Boxed W B 65 (.slice none 0 0)∧Boxed W b1 3 (.int .i64 0)∧Boxed W b3 65 (.slice (some ⟨g,0,none⟩) n cap)∧
  W.ownsRow B 74 2 (.slice (some ⟨g,0,none⟩) n cap) n (tcells ((pre.map (·.1)).take 3000))∧Boxed W b4 3 (.int .i64 z)∧Below B w W
def TokX(B b1:Nat)(w:World)(c:Code)(pre:List TX)(W:World):Prop:=
 c=.ret∧(∃(p:List TX) (x:TX) (g:Nat),pre=p++[x]∧x.2≠0∧Boxed W B 65 (.slice (some ⟨g,0,none⟩) 0 0)∧W.ownsRow B 74 2 (.slice (some ⟨g,0,none⟩) 0 0) 0 []∧Boxed W b1 3 (.int .i64 x.2))∧Below B w W
def Tok2(W:World)(Bx:Nat)(t:TV):Prop:=W.heap[Bx]? =some (.cells #[.int .i64 t.k,.string t.s] 74 (0,0))
theorem tokI_own{B b1 b3 b4 b:Nat}{w:World}(hB:B≤b)(hs:B≤w.heap.size):OwnFrom b (TokI B b1 b3 b4 w):=by
 rintro pre W V row ⟨h0,n,g,cap,z,hn,hz,h1,h2,h3,h4,h5,h6⟩ hg hr
 have hr':=fun r e=>(hr r e).2
 exact ⟨h0,n,g,cap,z,hn,hz,tbox_keep h1 hg hr',tbox_keep h2 hg hr',tbox_keep h3 hg hr',trow_keep h4 hg hr',tbox_keep h5 hg hr',tbelow_keep h6 hg hB hs hr⟩
theorem tokX_own{B b1 b:Nat}{w:World}(hB:B≤b)(hs:B≤w.heap.size)(c:Code):OwnFrom b (TokX B b1 w c):=by
 rintro pre W V row ⟨h0,⟨p,x,g,hp,hx,h1,h2,h3⟩,h6⟩ hg hr
 have hr':=fun r e=>(hr r e).2
 exact ⟨h0,⟨p,x,g,hp,hx,tbox_keep h1 hg hr',trow_keep h2 hg hr',tbox_keep h3 hg hr'⟩,tbelow_keep h6 hg hB hs hr⟩
theorem tok2_keep{W V:World}{row:Option Nat}{b:Nat}{t:TV}(h:Tok2 W b t)(hg:W.grownBy V row)(hr: ∀r,row=some r→ ∃o:Obj,W.heap[r]? =some o∧o.isCells=false):Tok2 V b t:=by
 refine (hg.block b (Array.getElem?_eq_some_iff.1 h).1 fun e=> ?_).trans h
 obtain ⟨o,ho,hc⟩:=hr b e.symm
 rw[show W.heap[b]? =_ from h]at ho
 cases ho
 cases hc
theorem results_tok{P:Program}{fn:Func}{p q:Tmp}{t1 t2:TypeId}(h:fn.results= #[.cell p t1,.cell q t2])(tmps:Array Value)(w:World)(b1 b2:Nat)(v1 v2:Value)
  (hp:tmps[p]?.getD undef=.pointer (some ⟨b1,0,none⟩)) (hq:tmps[q]?.getD undef=.pointer (some ⟨b2,0,none⟩))
  (l1:(loadVar t1 ⟨b1,0,none⟩).run P w=.ok v1 w) (l2:(loadVar t2 ⟨b2,0,none⟩).run P w=.ok v2 w):
  (results fn tmps).run P w=.ok (.tuple #[v1,v2]) w:=by
 simp[results,h,hp,hq,asAddr,l1,l2,Sem.run_bind,Result.andThen]
theorem tload1{P:Program}{w:World}{t:TypeId}{b:Nat}{v:Value}(ha: ∀w,(isAgg t).run P w=.ok false w)(h:w.cell? ⟨b,0,none⟩=some v):(loadVar t ⟨b,0,none⟩).run P w=.ok v w:=by
 simp[loadVar,go_sem,ha,h]
theorem kpT_set{B L b c:Nat}{W:World}(hBc:B≤c)(hcL:c<L)(hcb:c≠b)(v:Value):KpT B L b W (W.setCell ⟨c,0,none⟩ v):=by
 have hc:(W.setCell ⟨c,0,none⟩ v).cell? ⟨b,0,none⟩=W.cell? ⟨b,0,none⟩:=World.cell?_setCell_other _ _ _ _ (fun e=>hcb (by have:=congrArg Addr.block e;simp at this;omega))
 have hg:=grownBy_setCell' W c v
 refine ⟨(Below.refl B W).setCell (p:=⟨c,0,none⟩) hBc v,fun hr=>⟨fun u k hu hk=> ?_,fun g h1 h2 h3=>⟨hg.block g h2.lt (fun e=>by injection e with e;omega),fun u hu=>h3 u (hc▸hu)⟩⟩⟩
 have:=hr u k (hc▸hu) hk
 have:=hg.size
 omega
theorem kpT_app{B L b:Nat}{W w2:World}{o:Obj}{v v':Value}(hv:W.cell? ⟨b,0,none⟩=some v)(hb2:(w2.cell? ⟨b,0,none⟩).isSome)(hBb:B≤b)(hbL:b<L)(hB:B≤W.heap.size)(hg:(W.alloc o).grownBy w2 v.ownBlock)(hvb: ∀k,v.ownBlock=some k→B≤k)(hat:v'.ownBlock=v.ownBlock∨v'.ownBlock=some (W.alloc o).heap.size)(hlt: ∀k,v'.ownBlock=some k→k<w2.heap.size):
  KpT B L b W (w2.setCell ⟨b,0,none⟩ v'):=by
 have hgs:=grownBy_setCell' w2 b v'
 have hsz:(W.alloc o).heap.size=W.heap.size+1:=by simp
 have hcc:(w2.setCell ⟨b,0,none⟩ v').cell? ⟨b,0,none⟩=some v':=World.cell?_setCell_same' _ _ _ hb2
 have hb0:Below B W w2:=(((Below.refl B W).alloc hB o).grown hg (by have:=hg.size;omega) (fun k hk=>hvb k hk))
 refine ⟨hb0.setCell (p:=⟨b,0,none⟩) hBb v',fun hr=>⟨fun u k hu hk=> ?_,fun g h1 h2 h3=>⟨?_,fun u hu e=> ?_⟩⟩⟩
 ·rw[hcc]at hu
  cases hu
  have:=hlt k hk
  have:=hgs.size
  omega
 ·have hgl:=h2.lt
  have e1:(w2.setCell ⟨b,0,none⟩ v').heap[g]? =w2.heap[g]? :=hgs.block g (by have:=hg.size;omega) (fun e=>by injection e with e;omega)
  have e2:w2.heap[g]? =(W.alloc o).heap[g]? :=hg.block g (by omega) (fun e=>h3 v hv e.symm)
  exact (e1.trans e2).trans (Below.heap_alloc W o g hgl)
 rw[hcc]at hu
 cases hu
 rcases hat with h|h
 ·rw[h]at e
  exact h3 v hv e
 rw[h]at e
 injection e with e
 have:=h2.lt
 omega
theorem tok_news(W:World)(t:TV): ∀(j:Nat) (u:Value),([.int .i64 t.k,.string t.s]:List Value)[j]? =some u→(W.alloc (.cells #[.int .i64 t.k,.string t.s] 74)).cell? ((⟨W.heap.size,0,none⟩:Addr).add j)=some u:=fun j u h=>by
 rw[Addr.add_lit,Nat.zero_add,World.cell?_alloc_at _ _ _ _ rfl]
 simpa using h
theorem tok_one(t:TV): ∀u∈([.int .i64 t.k,.string t.s]:List Value),u.oneCell'=true:=fun u hu=>by
 simp at hu
 rcases hu with rfl|rfl<;>rfl
theorem implTokens_in(n:Nat)(hn:4≤n)(s:ByteArray)(w:World)(hs:s.size≤16777216)(hE:Esc w)(hM:MaxI w):
  CallsIn Fence.wide n Tryz.prog 59 #[.string s] w fun e w'=>TokB w (toksI s.data.toList) e w':=by
 have h1:1≤n:=by omega
 have HE:Hid (Esc w):=hE
 have HM:Hid (MaxI w):=hM
 clear hE hM
 refine callsIn_of_wp_marks Tryz.func59 rfl trivial ?_ rfl
 simp only[Tryz.ntmps59,List.size_toArray,List.length_cons,List.length_nil,Nat.reduceAdd,Nat.reduceSub,Array.replicate_succ,Array.replicate_zero,List.push_toArray,List.append_toArray,List.nil_append,List.cons_append]
 gi_wp2_with fail
 refine wpIn_wide.2 (wp_scope_straight ((wpIn_wide (n:=n)).1 ?_))
 gi_wp2_with fail
 obtain ⟨V0,hV0⟩: ∃V0,(((((w.alloc (.cells #[.slice none 0 0] 65)).alloc (.cells #[.int .i64 0] 3)).alloc (.cells #[] 74)).alloc (.cells #[.slice (some ⟨w.heap.size+1+1,0,none⟩) 0 0] 65)).alloc (.cells #[.int .i64 0] 3))=V0:=⟨_,rfl⟩
 have F0:TokI w.heap.size (w.heap.size+1) (w.heap.size+1+1+1) (w.heap.size+1+1+1+1) w [] V0∧V0.heap.size=w.heap.size+5:=by
  rw[←hV0]
  refine ⟨⟨fun x hx=>(by cases hx),0,w.heap.size+1+1,0,0,rfl,rfl,?_,?_,?_,?_,?_,?_⟩,by simp⟩
  ·exact ((((Boxed.new w _ _).alloc _).alloc _).alloc _).alloc _
  ·have h:=Boxed.new (w.alloc (.cells #[.slice none 0 0] 65)) 3 (.int .i64 0)
   simp only[World.size_alloc]at h
   exact ((h.alloc _).alloc _).alloc _
  ·have h:=Boxed.new (((w.alloc (.cells #[.slice none 0 0] 65)).alloc (.cells #[.int .i64 0] 3)).alloc (.cells #[] 74)) 65 (.slice (some ⟨w.heap.size+1+1,0,none⟩) 0 0)
   simp only[World.size_alloc]at h
   exact h.alloc _
  ·have h:=World.ownsRow_lit (base:=w.heap.size) (e:=74) (size:=2) ((w.alloc (.cells #[.slice none 0 0] 65)).alloc (.cells #[.int .i64 0] 3)) #[] 0 (by simp;omega) (by decide) rfl
   simp only[World.size_alloc]at h
   exact (h.alloc _).alloc _
  ·have h:=Boxed.new ((((w.alloc (.cells #[.slice none 0 0] 65)).alloc (.cells #[.int .i64 0] 3)).alloc (.cells #[] 74)).alloc (.cells #[.slice (some ⟨w.heap.size+1+1,0,none⟩) 0 0] 65)) 3 (.int .i64 0)
   simp only[World.size_alloc]at h
   exact h
  exact (((((Below.refl _ w).alloc (Nat.le_refl _) _).alloc (by simp) _).alloc (by simp;omega) _).alloc (by simp;omega) _).alloc (by simp;omega) _
 rw[hV0]
 obtain ⟨FI,hVs⟩:=F0
 clear hV0
 refine wpIn_label ?_
 obtain ⟨B,hB⟩: ∃B,w.heap.size=B:=⟨_,rfl⟩
 have n2:B+1+1=B+2:=rfl
 have n3:B+2+1=B+3:=rfl
 have n4:B+3+1=B+4:=rfl
 rw[hB,n2,n3,n4]at FI
 simp only[hB,n2,n3,n4]
 clear n2 n3 n4
 have HBe:Hid (w.heap.size=B):=hB
 have HVs:Hid (V0.heap.size=w.heap.size+5):=hVs
 have hwB:w.heap.size≤B:=by omega
 have hBw:B≤w.heap.size:=by omega
 have hV5:V0.heap.size=B+5:=by omega
 clear hB hVs
 gi_wp2_with fail
 refine ⟨trivial,?_⟩
 refine (implTokensOf (n-1) s V0).mono ?_
 rintro e w' ⟨rfl,rfl⟩
 obtain ⟨W0,hW0⟩: ∃W0,V0.alloc (.cells #[.string s] 9)=W0:=⟨_,rfl⟩
 have hBs:W0.cell? ⟨V0.heap.size,0,none⟩=some (.string s):=by rw[←hW0];exact (Boxed.new V0 9 (.string s)).cell
 have hWs:W0.heap.size=V0.heap.size+1:=by rw[←hW0];simp
 have FI0:TokI B (B+1) (B+3) (B+4) w [] W0:=by
  rw[←hW0]
  exact (tokI_own (b:=V0.heap.size) (by omega) (by omega)).alloc _ FI
 rw[hW0]
 clear hW0 FI
 rw[hV5]at hBs hWs⊢
 have hW6:B+6≤W0.heap.size:=by omega
 have hW7:W0.heap.size≤B+6:=by omega
 clear hV5 HVs hWs
 have HBel:Below w.heap.size w W0:=by
  obtain ⟨_,_,_,_,_,_,_,_,_,_,_,_,h⟩:=FI0
  exact h.mono hwB
 have hR0:RowIn (B+3) W0:=by
  obtain ⟨_,_,g,_,_,_,_,_,_,h3,h4,_,_⟩:=FI0
  intro v k hv hk
  rw[h3.cell]at hv
  cases hv
  exact (h4.lt k hk).2
 have hE0:Esc W0:=HE.out.later HBel
 have hM0:MaxI W0:=max_below HM.out HBel
 have hEB:0<B:=by have:=HE.out.lt;omega
 have hMB:1<B:=by
  obtain ⟨m,hm⟩:=HM.out
  have h5:1<w.heap.size:=World.block_lt_of_cell? w _ hm
  omega
 gi_wp2_with fail
 refine wpIn_rangeFunc_ownH rfl h1 (gf:=89) (lb:= #[.pointer (some ⟨B+5,0,none⟩)]) rfl trivial (enters_of Tryz.func89 (by kernel_rfl) rfl)
  (implTokensOf1 (n-1) (by omega) (B+5) B W0.heap.size (B+3) s W0 hs hE0 hM0 (by omega) (Nat.le_refl _) hEB hMB (by omega) hR0 hBs (by omega)) kpT_t (kpT_b (by omega) (by omega)) (Below.refl _ _) (fun _=>rfl)
  (TokI B (B+1) (B+3) (B+4) w) (TokX B (B+1) w) (tokI_own (by omega) hBw) (tokX_own (by omega) hBw) FI0
  (fun x a' W=> ∃Bx,B+4<Bx∧Tok2 W Bx x.1∧a'={tmps:= #[.string s,undef,.pointer (some ⟨B,0,none⟩),.pointer (some ⟨B+1,0,none⟩),.pointer (some ⟨B+3,0,none⟩),.pointer (some ⟨B+4,0,none⟩),.pointer (some ⟨Bx,0,none⟩),.int .i64 x.2,.slice (some ⟨B+2,0,none⟩) 0 0,.string s,.func (.func 89) #[] #[.pointer (some ⟨B+5,0,none⟩)],.agg #[.int .i64 x.1.k,.string x.1.s],.int .i64 x.2,undef,undef,undef,undef,undef,undef,undef,undef,undef,undef,undef,undef,undef,undef,undef,undef,undef,undef],defers:=[]})
  (fun x a' _ W V row ⟨Bx,h1,h2,h3⟩ hg hr=>⟨Bx,h1,tok2_keep h2 hg (fun r e=>(hr r e).2),h3⟩) ?assign ?body ?done ?stop
 case assign=>
  rintro l pre x W K hi hK
  have hWl:B+4<W.heap.size:=by
   obtain ⟨_,_,_,_,_,_,_,_,_,_,_,h,_⟩:=hi
   exact h.lt
  dsimp only[encT]
  gi_wp2
  exact hK _ _ ((KeepsOthers.alloc _ _).from _) (kpT_below (by omega) (by omega) ((Below.refl _ W).alloc (Nat.le_refl _) _)) ((tokI_own (b:=W0.heap.size) (by omega) hBw).alloc _ hi) ⟨W.heap.size,by omega,World.alloc_heap_new W _,rfl⟩
 case body=>
  rintro l pre x a' W hl ⟨r,hr⟩ ⟨h0,k,g,cap,z,hk,hz,c1,c2,c3,c4,c5,hbel⟩ ⟨Bx,hBx,t2,rfl⟩ hlt
  have HA:Hid (∀y∈pre,y.2=0):=h0
  have HK:Hid (k=min pre.length 3000):=hk
  have HZ:Hid (z=(if 3000<pre.length then 3 else 0)):=hz
  have hBW:B≤W.heap.size:=by have:=c1.lt;omega
  clear h0 hk hz hr hl hlt
  by_cases hx:x.2=0
  ·have e3:=c3.cell
   have e5:=c5.cell
   have f5:=c5.frozen
   have hxi:(x.2 !=0)=false:=by rw[hx];rfl
   have HA2:Hid (∀y∈pre++[x],y.2=0):=fun y hy=>by
    rcases List.mem_append.1 hy with h|h
    ·exact HA.out y h
    rw[List.mem_singleton.1 h];exact hx
   by_cases hk3:k=3000
   ·have hki:((k:Int)==3000)=true:=beq_iff_eq.2 (by omega)
    have hpl:3000≤pre.length:=by have:=HK.out;omega
    gi_wp2_with fail
    refine ⟨(KeepsOthers.setCell _ _ _).from _,kpT_set (by omega) (by omega) (by omega) _,HA2.out,k,g,cap,3,?_,?_,?_,?_,?_,?_,?_,?_⟩
    ·rw[List.length_append,List.length_singleton];omega
    ·rw[if_pos (by rw[List.length_append,List.length_singleton];omega)]
    ·exact c1.other (by omega) _
    ·exact c2.other (by omega) _
    ·exact c3.other (by omega) _
    ·rw[List.map_append,List.take_append_of_le_length (by rw[List.length_map];exact hpl)]
     exact c4.kept (grownBy_setCell' W (B+4) _) (.inr (c5.not_row (by decide) c4).symm)
    ·exact c5.set _
    exact hbel.setCell (p:=⟨B+4,0,none⟩) (show B≤B+4 by omega) _
   have hki:((k:Int)==3000)=false:=beq_eq_false_iff_ne.2 (by omega)
   have HPL:Hid (pre.length<3000∧k=pre.length):=by have:=HK.out;show _∧_;omega
   have hk3l:k<3000:=by have:=HK.out;omega
   have HX0:Hid (x.2=0):=hx
   have d0:W.cell? ⟨Bx,0,none⟩=some (.int .i64 x.1.k):=by simp[World.cell?,show W.heap[Bx]? =_ from t2]
   have d1:W.cell? ⟨Bx,1,none⟩=some (.string x.1.s):=by simp[World.cell?,show W.heap[Bx]? =_ from t2]
   obtain ⟨i0,hi,hz0,hz1,hz2⟩:=info_parts Tryz.infoTk
   have hown:=c4.alloc (.cells #[.int .i64 x.1.k,.string x.1.s] 74)
   clear hx hk3
   gi_wp2_with (gi_at_builtin;refine wpListIn_append_own_at _ rfl _ _ 65 rfl B 74 i0 (.agg #[.int .i64 0,.string ⟨#[]⟩]) 2 24 Tryz.underlying65 hi hz0 hz1 hz2 rfl (by decide) _ _ _ rfl hown ⟨W.heap.size,0,none⟩ 1 1 [.int .i64 x.1.k,.string x.1.s] rfl rfl (tok_news W x.1) (tok_one x.1) (by unfold maxLen;omega) (by omega) (by simp;omega) ?_;intro v' w1 hown' hgrow _ hat;obtain ⟨g',cap',rfl⟩:=ownsRow_succ hown';obtain ⟨a1,a2,a3,a4,a5⟩:=c3.appended (by decide) c4 hBW (by omega) hown' hgrow;have q1:=a1.cell;have q2:=a1.frozen)
   have kp: ∀{b:Nat} {t:TypeId} {v:Value},Boxed W b t v→t≠74→b≠B+3→Boxed (w1.setCell ⟨B+3,0,none⟩ (.slice (some ⟨g',0,none⟩) (k+1) cap')) b t v:=fun h ht hne=>((h.alloc _).kept hgrow (h.not_row ht c4)).other hne _
   obtain ⟨p1,p2⟩:=HPL.out
   refine ⟨a4.from _,kpT_app c3.cell (by rw[a1.cell];rfl) (by omega) (by omega) hBW hgrow (fun j e=>(c4.lt j e).1) hat (fun j e=>(hown'.lt j e).2),HA2.out,k+1,g',cap',z,?_,?_,kp c1 (by decide) (by omega),kp c2 (by decide) (by omega),a2,?_,kp c5 (by decide) (by omega),hbel.trans a5⟩
   ·rw[List.length_append,List.length_singleton];omega
   ·rw[HZ.out,if_neg (by omega),if_neg (by rw[List.length_append,List.length_singleton];omega)]
   rw[List.take_of_length_le (by rw[List.length_map];omega)]at a3
   rw[List.take_of_length_le (by rw[List.length_map,List.length_append,List.length_singleton];omega),List.map_append,tcells_append]
   exact a3
  have hxi:(x.2 !=0)=true:=bne_iff_ne.2 hx
  have e1:=(c1.alloc (.cells #[] 74)).cell
  have f1:=(c1.alloc (.cells #[] 74)).frozen
  have e2:=(c2.alloc (.cells #[] 74)).cell
  have f2:=(c2.alloc (.cells #[] 74)).frozen
  have r0:=World.ownsRow_lit (base:=B) (e:=74) (size:=2) W #[] 0 hBW (by decide) rfl
  have hlt1:=c2.lt
  gi_wp2_with fail
  refine ⟨((KeepsOthers.alloc _ _).trans ((KeepsOthers.setCell _ _ _).trans (KeepsOthers.setCell _ _ _))).from _,rfl,⟨pre,x,W.heap.size,rfl,hx,?_,?_,?_⟩,?_⟩
  ·exact ((c1.alloc _).set _).other (by omega) _
  ·exact (r0.kept (grownBy_setCell' _ B _) (.inr (fun e=>by simp[Value.ownBlock]at e;omega))).kept (grownBy_setCell' _ (B+1) _) (.inr (fun e=>by simp[Value.ownBlock]at e;omega))
  ·exact ((c2.alloc _).other (by omega) _).set _
  exact ((hbel.alloc hBW _).setCell (p:=⟨B,0,none⟩) (Nat.le_refl _) _).setCell (p:=⟨B+1,0,none⟩) (show B≤B+1 by omega) _
 case done=>
  rintro D xs W hD hS ⟨h0,k,g,cap,z,hk,hz,c1,c2,c3,c4,c5,hbel⟩ hK
  obtain ⟨T,hxs,hT⟩: ∃l,xs=goods l∧tokH [] s.data.toList=(l,0):=by
   rcases hS with h|⟨T,c,h1,h2,_⟩
   ·exact h
   have:=h0 (tv0,(c:Int)) (by rw[h1];simp)
   exact absurd (by simpa using this) h2
  have hxl:xs.length=T.length:=by rw[hxs,goods_len]
  have hxm:xs.map (·.1)=T:=by rw[hxs];unfold goods;rw[List.map_map];exact List.map_id' T
  rw[hxl]at hk hz
  rw[hxm]at c4
  clear hS h0 hxs hxl hxm
  have hKK: ∀V:World,V.heap[D]? =some (.deferred (some []))→ ∀{b:Nat} {t:TypeId} {v:Value},Boxed V b t v→(V.putObj D (.deferred none)).cell? ⟨b,0,none⟩=some v:=fun V hV {b t v} h=>(tbox_keep h (grownBy_putObj' V D (.deferred none)) (fun r e=>by cases e;exact ⟨_,hV,rfl⟩)).cell
  have hKB: ∀V:World,V.heap[D]? =some (.deferred (some []))→Below B w V→Below B w (V.putObj D (.deferred none)):=fun V hV h=>h.trans (belowK_b (w:=W0) (by omega) V D _ _ hD hV rfl rfl)
  have HKK:=hidU hKK
  have HKB:=hidU hKB
  have HT:=hidU hT
  have HKe:=hidU hk
  have HZe:=hidU hz
  have hDB:B+5<D:=by omega
  clear hKK hKB hT hk hz
  by_cases hmany:3000<T.length
  ·obtain rfl:z=3:=by rw[HZe.out,if_pos hmany]
   have HR:Hid (toksI s.data.toList=([],3)):=by
    show _=_
    unfold toksI endT
    rw[HT.out,if_neg (by simp),if_pos hmany]
   have e1:=(c1.alloc (.cells #[] 74)).cell
   have f1:=(c1.alloc (.cells #[] 74)).frozen
   have e2:=(c2.alloc (.cells #[] 74)).cell
   have f2:=(c2.alloc (.cells #[] 74)).frozen
   have e5:=c5.cell
   have e5a:=(c5.alloc (.cells #[] 74)).cell
   have r0:=World.ownsRow_lit (base:=B) (e:=74) (size:=2) W #[] 0 (by have:=c1.lt;omega) (by decide) rfl
   have hlt1:=c2.lt
   clear c3 c4 hmany
   gi_wp2_with fail
   gi_region
   gi_wp2_with fail
   have d1:=((c1.alloc (.cells #[] 74)).set (.slice (some ⟨W.heap.size,0,none⟩) 0 0)).other (B':=B+1) (by omega) (.int .i64 3)
   have d2:=((c2.alloc (.cells #[] 74)).other (B':=B) (by omega) (.slice (some ⟨W.heap.size,0,none⟩) 0 0)).set (.int .i64 3)
   have d4:=(r0.kept (grownBy_setCell' _ B (.slice (some ⟨W.heap.size,0,none⟩) 0 0)) (.inr (fun e=>by simp[Value.ownBlock]at e;omega))).kept (grownBy_setCell' _ (B+1) (.int .i64 3)) (.inr (fun e=>by simp[Value.ownBlock]at e;omega))
   have db:Below B w (((W.alloc (.cells #[] 74)).setCell ⟨B,0,none⟩ (.slice (some ⟨W.heap.size,0,none⟩) 0 0)).setCell ⟨B+1,0,none⟩ (.int .i64 3)):=((hbel.alloc (by omega) _).setCell (p:=⟨B,0,none⟩) (Nat.le_refl _) _).setCell (p:=⟨B+1,0,none⟩) (show B≤B+1 by omega) _
   have hK2:=((KeepsOthers.alloc W (.cells #[] 74)).trans ((KeepsOthers.setCell _ ⟨B,0,none⟩ (.slice (some ⟨W.heap.size,0,none⟩) 0 0)).trans (KeepsOthers.setCell _ ⟨B+1,0,none⟩ (.int .i64 3)))).same D _ hK rfl
   generalize ((W.alloc (.cells #[] 74)).setCell ⟨B,0,none⟩ (.slice (some ⟨W.heap.size,0,none⟩) 0 0)).setCell ⟨B+1,0,none⟩ (.int .i64 3)=V at*
   have d1':Boxed V.drew B 65 (.slice (some ⟨W.heap.size,0,none⟩) 0 0):=d1
   have d2':Boxed V.drew (B+1) 3 (.int .i64 3):=d2
   have hK3:V.drew.heap[D]? =some (.deferred (some [])):=hK2
   have d4':V.drew.ownsRow B 74 2 (.slice (some ⟨W.heap.size,0,none⟩) 0 0) 0 []:=d4
   have db':=db.drew
   refine ⟨by simp,.inl ⟨_,_,rfl,run_takeDeferred hK3,?_⟩⟩
   refine ⟨_,results_tok rfl _ _ _ _ _ _ rfl rfl (tload1 Tryz.isAgg65 (HKK.out V.drew hK3 d1')) (tload1 Tryz.isAgg3 (HKK.out V.drew hK3 d2')),?_⟩
   rw[HR.out]
   refine ⟨_,rfl,?_,by rw[HBe.out];exact HKB.out V.drew hK3 db'⟩
   rw[HBe.out]
   exact ownsRow_putObj d4' (.deferred none) hK3 rfl
  obtain rfl:z=0:=by rw[HZe.out,if_neg hmany]
  have HR:Hid (toksI s.data.toList=(T,0)):=by
   show _=_
   unfold toksI endT
   rw[HT.out,if_neg (by simp),if_neg hmany]
  have hkT:k=T.length:=by have:=HKe.out;omega
  rw[List.take_of_length_le (by omega)]at c4
  have e1:=c1.cell
  have e3:=c3.cell
  have e5:=c5.cell
  have f1:=c1.frozen
  have e2:=c2.cell
  have f2:=c2.frozen
  have HkT:=hidU hkT
  clear hkT hmany
  gi_wp2_with fail
  have d1:=(c1.set (.slice (some ⟨g,0,none⟩) k cap)).other (B':=B+1) (by omega) (.int .i64 0)
  have d2:=(c2.other (B':=B) (by omega) (.slice (some ⟨g,0,none⟩) k cap)).set (.int .i64 0)
  have d4:=(c4.kept (grownBy_setCell' W B (.slice (some ⟨g,0,none⟩) k cap)) (.inr (c1.not_row (by decide) c4).symm)).kept (grownBy_setCell' _ (B+1) (.int .i64 0)) (.inr (c2.not_row (by decide) c4).symm)
  have db:Below B w ((W.setCell ⟨B,0,none⟩ (.slice (some ⟨g,0,none⟩) k cap)).setCell ⟨B+1,0,none⟩ (.int .i64 0)):=(hbel.setCell (p:=⟨B,0,none⟩) (Nat.le_refl _) _).setCell (p:=⟨B+1,0,none⟩) (show B≤B+1 by omega) _
  have hK2:=((KeepsOthers.setCell W ⟨B,0,none⟩ (.slice (some ⟨g,0,none⟩) k cap)).trans (KeepsOthers.setCell _ ⟨B+1,0,none⟩ (.int .i64 0))).same D _ hK rfl
  generalize (W.setCell ⟨B,0,none⟩ (.slice (some ⟨g,0,none⟩) k cap)).setCell ⟨B+1,0,none⟩ (.int .i64 0)=V at*
  refine ⟨by simp,.inl ⟨_,_,rfl,run_takeDeferred hK2,?_⟩⟩
  refine ⟨_,results_tok rfl _ _ _ _ _ _ rfl rfl (tload1 Tryz.isAgg65 (HKK.out V hK2 d1)) (tload1 Tryz.isAgg3 (HKK.out V hK2 d2)),?_⟩
  rw[HR.out]
  refine ⟨_,rfl,?_,by rw[HBe.out];exact HKB.out V hK2 db⟩
  rw[HBe.out]
  have:=ownsRow_putObj d4 (.deferred none) hK2 rfl
  rw[HkT.out]at this⊢
  exact this
 case stop=>
  rintro D c pre W hD hSp ⟨rfl,⟨p,x,g,hp,hx,c1,c2,c3⟩,hbel⟩ hK
  obtain ⟨c,hxc,hc0,hT⟩: ∃c:Nat,x.2=(c:Int)∧c≠0∧tokH [] s.data.toList=([],c):=by
   rcases hSp with ⟨T,h1⟩|⟨T,c,h1,h2,h3⟩
   ·have hm:x∈goods T:=by rw[←h1,hp];simp
    unfold goods at hm
    obtain ⟨t,_,rfl⟩:=List.mem_map.1 hm
    exact absurd rfl hx
   rw[hp]at h1
   have:=List.append_inj_right' h1 rfl
   simp at this
   exact ⟨c,by rw[this],h2,h3⟩
  rw[hxc]at c3
  have HR:Hid (toksI s.data.toList=([],c)):=by
   show _=_
   unfold toksI endT
   rw[hT,if_pos hc0]
  clear hSp hp hx hxc hT
  gi_wp2
  refine ⟨by simp,.inl ⟨_,_,rfl,run_takeDeferred hK,?_⟩⟩
  have hb':Below B w (W.putObj D (.deferred none)):=hbel.trans (belowK_b (w:=W0) (by omega) W D _ _ hD hK rfl rfl)
  have hp:=fun {b:Nat} {t:TypeId} {v:Value} (h:Boxed W b t v)=>(tbox_keep h (grownBy_putObj' W D (.deferred none)) (fun r e=>by cases e;exact ⟨_,hK,rfl⟩)).cell
  refine ⟨_,results_tok rfl _ _ _ _ _ _ rfl rfl (tload1 Tryz.isAgg65 (hp c1)) (tload1 Tryz.isAgg3 (hp c3)),?_⟩
  rw[HR.out]
  refine ⟨_,rfl,?_,by rw[HBe.out];exact hb'⟩
  rw[HBe.out]
  exact ownsRow_putObj c2 _ hK rfl
theorem implTokens(s:ByteArray)(w:World)(hs:s.size≤16777216)(hE:Esc w)(hM:MaxI w):
  Calls Tryz.prog 59 #[.string s] w fun e w'=>TokB w (toksI s.data.toList) e w':=callsIn_wide.1 (implTokens_in 4 (Nat.le_refl _) s w hs hE hM)
end Go.Proofs.YtfdgehlobbeomaaGreatDoor
