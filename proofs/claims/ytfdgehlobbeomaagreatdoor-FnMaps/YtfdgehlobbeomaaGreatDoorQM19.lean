/- TokSpec5, TokSpec6. -/
import Derived.Test.YtfdgehlobbeomaaGreatDoorQM18
import Derived.Laws.OwnMore
namespace Go.Proofs.YtfdgehlobbeomaaGreatDoor
open Go.RowKit
set_option linter.unusedVariables false
theorem own_low{w:World}{B B':Nat}{e:TypeId}{size n:Nat}{v:Value}{xs:List Value}(h:w.ownsRow B e size v n xs)(hB:B'≤B):w.ownsRow B' e size v n xs:=by
 refine ⟨h.1,?_⟩
 rcases h.2 with h1|⟨g,cap,cur,h1,h2,h3⟩
 ·exact .inl h1
 exact .inr ⟨g,cap,cur,h1,Nat.le_trans hB h2,h3⟩
theorem nxt_sh(a k:Nat)(m:MR):nxt (a+k) m=nxt a (shMR k m):=by
 unfold nxt shMR
 dsimp only
 split
 ·congr 1;omega
 rfl
theorem TokA.shift{w U:World}{a k:Nat}{m:MR}{e:Ending}{w':World}(h:TokA U (a+k) m e w')(hb:Below w.heap.size w U): ∃v,e=.returned (.tuple #[v,.int .i64 (nxt a (shMR k m)),.int .i64 (m.code:Int)])∧w'.ownsRow w.heap.size 74 2 v m.ts.length (tcells m.ts)∧Below w.heap.size w w':=by
 obtain ⟨v,h1,h2,h3⟩:=h
 exact ⟨v,by rw[h1,nxt_sh],own_low h2 hb.size,hb.trans (h3.mono hb.size)⟩
theorem run_append_noneT{P:Program}(w:World)(base:Nat)(t ty e:TypeId)(i:TypeInfo)(size:Nat)(ht:P.underlying t=some (.slice e))(hi:P.info? e=some i)
  (v:Value) (n c:Nat) (xs:List Value) (hown:w.ownsRow base e size v n xs):
  (Builtin.append_ #[t,t] ty #[v,.slice none 0 c]).run P w=.ok v w:=by
 rcases hown.2 with ⟨rfl,rfl⟩|⟨g,cap,cur,rfl,_,_,hnc,_⟩
 ·simp[Builtin.append_,run_underlying ht,sizeOf,typeInfo,hi,Builtin.lenOf,Builtin.firstCells]
 simp[Builtin.append_,run_underlying ht,sizeOf,typeInfo,hi,Builtin.lenOf,Builtin.firstCells,hnc,storeCells]
theorem wpList_append_toks{P:Program}{w:World}{ops:Array Oper}{rest:List Oper}{o:Oper}{a:Act}{Q:Exit→Act→World→Prop}
  (hgd:o.guard=none) (s x:Operand) (t:TypeId) (hop:o.op=.call {callee:=.builtin .append,args:= #[s,x],argTypes:= #[t,t]})
  (B:Nat) (e:TypeId) (z:Value) (bytes:Nat) (ht:P.underlying t=some (.slice e)) (hinfo:(P.info? e).map (fun i=>(i.zero,i.size,i.bytes))=some (some z,2,bytes)) (hz:z.cells.size=2)
  (v:Value) (m:List TV) (hs:a.eval s=v) (hown:w.ownsRow B e 2 v m.length (tcells m)) (q:Value) (l:List TV) (hx:a.eval x=q) (hq:TokRow w q l)
  (hroom:(m.length+l.length)*bytes≤140737488355328) (hroom':m.length+l.length≤maxLen) (hB:B≤w.heap.size)
  (hK: ∀v' w1,w1.ownsRow B e 2 v' (m++l).length (tcells (m++l))→w.grownBy w1 v.ownBlock→(v'.ownBlock=v.ownBlock∨v'.ownBlock=some w.heap.size)→wpList P ops Q rest (a.put o.dst v') w1):
  wpList P ops Q (o::rest) a w:=by
 obtain ⟨i0,hi,hz0,hz1,hz2⟩:=info_parts hinfo
 have main: ∀ad c,q=.slice (some ad) l.length c→(∀j u,(tcells l)[j]? =some u→w.cell? (ad.add j)=some u)→wpList P ops Q (o::rest) a w:=fun ad c hqe hc=>by
  refine wpList_append_own_at w hgd s x t hop B e i0 z 2 bytes ht hi hz0 hz1 hz2 hz (by decide) v m.length (tcells m) hs hown ad l.length c (tcells l) (hx.trans hqe) (tcells_length l) hc (tcells_one' l) hroom' hroom hB ?_
  intro v' w1 g1 g2 _ g4
  refine hK v' w1 ?_ g2 g4
  rw[List.length_append,tcells_append]
  exact g1
 rcases hq with ⟨rfl,ao,cap,hqe⟩|⟨h0,g,off,cap,hqe,hg,hc⟩
 ·cases ao with
  |none=>
   refine wpList_plain hgd fun K hKK=> ?_
   have hrun:=run_append_noneT (P:=P) w B t o.type e i0 2 ht hi v m.length cap (tcells m) hown
   unfold Oper.wp
   have hx2:a.eval x=.slice none 0 cap:=hx.trans hqe
   simp[execOp,hop,resolve,invoke,builtin,hs,hx2,hrun,Result.andThen]
   exact hKK _ _ (hK v w (by rw[List.append_nil];exact hown) ⟨rfl,rfl,rfl,Nat.le_refl _,fun _ _ _=>rfl⟩ (.inl rfl))
  |some ad=>exact main ad cap hqe fun j u hj=>by simp[tcells]at hj
 refine main _ _ hqe fun j u hj=> ?_
 have hjl:j<l.length*2:=by
  have:=(List.getElem?_eq_some_iff.1 hj).1
  rwa[tcells_length]at this
 rw[Addr.add_lit]
 obtain ⟨e1,e2⟩:=tcells_at l (j/2) (by omega)
 obtain ⟨f1,f2⟩:=hc (j/2) (by omega)
 by_cases hm:j%2=0
 ·rw[show j/2*2=j by omega]at e1 f1
  rw[hj]at e1
  injection e1 with e1
  rw[f1,e1]
 rw[show j/2*2+1=j by omega]at e2
 rw[show off+j/2*2+1=off+j by omega]at f2
 rw[hj]at e2
 injection e2 with e2
 rw[f2,e2]
def TokB(w:World)(r:List TV×Nat)(e:Ending)(w':World):Prop:= ∃v,e=.returned (.tuple #[v,.int .i64 (r.2:Int)])∧w'.ownsRow w.heap.size 74 2 v r.1.length (tcells r.1)∧Below w.heap.size w w'
theorem TokB.same{w:World}{r r':List TV×Nat}{e:Ending}{w':World}(h:TokB w r e w')(hr:r=r'):TokB w r' e w':=hr▸h
theorem TokB.none{w W:World}{c:Nat}(hb:Below w.heap.size w W):TokB w ([],c) (.returned (.tuple #[.slice (some ⟨W.heap.size,0,none⟩) 0 0,.int .i64 (c:Int)])) (W.alloc (.cells #[] 74)):=
 ⟨_,rfl,World.ownsRow_lit W #[] 0 hb.size (by decide) rfl,hb.alloc hb.size _⟩
end Go.Proofs.YtfdgehlobbeomaaGreatDoor
