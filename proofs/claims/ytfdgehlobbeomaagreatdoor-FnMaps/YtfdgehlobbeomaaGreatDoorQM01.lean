/- Base, CutWay, PctPlain, SplPlain, LowerWalk, RuneOk, XmlPlain. -/
import Derived.WalkKit
import Derived.WalkLawsBesides
import Derived.WalkSpells
import Derived.Laws.IdiomStrings
import Derived.Lib.IndexMore
import Derived.Test.YtfdgehlobbeomaaGreatDoorRows
import Derived.Lib.RuneBytes
namespace Go.Proofs.YtfdgehlobbeomaaGreatDoor
open Go.RowKit
abbrev CB(f:FuncId)(a:Array Value)(W:World)(v:Value):Prop:=Calls Tryz.prog f a W fun e w'=>e=.returned v∧Below W.heap.size W w'
abbrev CS(f:FuncId)(a:Array Value)(W:World)(v:Value):Prop:=Calls Tryz.prog f a W fun e w'=>e=.returned v∧W=w'
def bcells(l:List UInt8):List Value:=l.map fun b=>Value.int .u8 (b.toNat:Int)
theorem bcells_snoc(l:List UInt8)(c:UInt8):bcells (l++[c])=bcells l++[Value.int .u8 (c.toNat:Int)]:=by simp[bcells]
theorem bcells_append(l m:List UInt8):bcells (l++m)=bcells l++bcells m:=by simp[bcells]
theorem bcells_length(l:List UInt8):(bcells l).length=l.length:=by simp[bcells]
theorem run_string_own{P:Program}(w:World)(src dst e:TypeId)(hs:P.underlying src=some (.slice e))(he:P.underlying e=some (.int .u8))(hd:P.underlying dst=some .string)
  {base:Nat} {v:Value} {n:Nat} {l:List UInt8} (hown:w.ownsRow base e 1 v n (bcells l)):
  (convert src dst v).run P w=.ok (.string ⟨l.toArray⟩) w:=by
 have hn:l.length=n:=by have:=hown.1;simpa[bcells_length] using this
 rcases hown.2 with ⟨rfl,h0⟩|⟨g,cap,cur,rfl,hb,hg,hnc,hcm,hcs,htake⟩
 ·rw[h0]at hn
  have:l=[]:=List.eq_nil_of_length_eq_zero hn
  subst this
  rw[run_convert_bytes_string w src dst e _ _ _ hs he hd]
  simp[Conv.bytesToString]
  rfl
 subst hn
 refine run_convert_bytes_back w src dst e ⟨g,0,none⟩ cap l hs he hd fun j hj=> ?_
 exact hown.cells (g:=g) rfl j _ (by simp[bcells,hj])
def bytesAt(w:World)(B:Nat)(l:List UInt8):Prop:=
 ∀j (hj:j<l.length),w.cell? ⟨B,j,none⟩=some (.int .u8 (l[j].toNat:Int))∧w.frozen? ⟨B,j,none⟩=false
theorem bytesAt.drew{w:World}{B:Nat}{l:List UInt8}(h:bytesAt w B l):bytesAt w.drew B l:=h
theorem bytesAt.set{w:World}{B:Nat}{l:List UInt8}(h:bytesAt w B l)(k:Nat)(hk:k<l.length)(c:UInt8){x:Int}(hx:x=(c.toNat:Int)):
  bytesAt (w.setCell ⟨B,k,none⟩ (.int .u8 x)) B (l.set k c):=by
 subst hx
 intro j hj
 have hj':j<l.length:=by simpa using hj
 refine ⟨?_,by rw[World.frozen?_setCell];exact (h j hj').2⟩
 by_cases e:k=j
 ·subst e
  rw[World.cell?_setCell_same' _ _ _ (by rw[(h k hk).1];rfl)]
  simp
 rw[World.cell?_setCell_other _ _ _ _ (fun h=>e (by injection h))]
 rw[List.getElem_set_ne e]
 exact (h j hj').1
theorem wpList_append_newG{P:Program}(wr:World){ops:Array Oper}{rest:List Oper}{o:Oper}{a:Act}{Q:Exit→Act→World→Prop}
  (hg:o.guard=none) (s x:Operand) (t:TypeId) (hop:o.op=.call {callee:=.builtin .append,args:= #[s,x],argTypes:= #[t,t]})
  (B:Nat) (e:TypeId) (z:Value) (bytes:Nat) (ht:P.underlying t=some (.slice e)) (hinfo:(P.info? e).map (fun i=>(i.zero,i.size,i.bytes))=some (some z,1,bytes)) (hz:z.cells.size=1)
  (v:Value) (n:Nat) (xs:List Value) (hs:a.eval s=v) (hown:wr.ownsRow B e 1 v n xs)
  (cs:Array Value) (m:Nat) (hm:cs.size=m) (hx:a.eval x=.slice (some ⟨wr.heap.size,0,none⟩) m m) (h1: ∀u∈cs.toList,u.oneCell'=true)
  (hroom:(n+m)*bytes≤140737488355328) (hroom':n+m≤maxLen) (hB:B≤wr.heap.size)
  (hK: ∀v' w1,w1.ownsRow B e 1 v' (n+m) (xs++cs.toList)→Below B wr w1→(∀k,k<wr.heap.size→some k≠v.ownBlock→w1.heap[k]? =wr.heap[k]?)→wpList P ops Q rest (a.put o.dst v') w1):
  wpList P ops Q (o::rest) a (wr.alloc (.cells cs e)):=by
 obtain ⟨i0,hi,hz0,hz1,hz2⟩:=info_parts hinfo
 refine wpList_append_own (wr.alloc (.cells cs e)) hg s x t hop B e i0 z 1 bytes ht hi hz0 hz1 hz2 hz (by decide) v n xs hs (hown.alloc _) ⟨wr.heap.size,0,none⟩ m m cs.toList hx (by simp[hm]) ?_ h1 hroom' hroom (by simp;omega) ?_
 ·intro j u hj
  rw[Addr.add_lit,Nat.zero_add]
  rw[World.cell?_alloc_at _ _ _ _ rfl]
  simpa using hj
 intro v' w1 h1 h2 _
 exact hK v' w1 h1 (((Below.refl B wr).alloc hB _).grown h2 (by simp;omega) (fun k hk=>(hown.lt k hk).1))
  (fun k hk hne=>(h2.block k (by simp;omega) hne).trans (Below.heap_alloc wr _ k hk))
theorem wpList_append_new{P:Program}(wr:World){ops:Array Oper}{rest:List Oper}{o:Oper}{a:Act}{Q:Exit→Act→World→Prop}
  (hg:o.guard=none) (s x:Operand) (t:TypeId) (hop:o.op=.call {callee:=.builtin .append,args:= #[s,x],argTypes:= #[t,t]})
  (B:Nat) (e:TypeId) (z:Value) (bytes:Nat) (ht:P.underlying t=some (.slice e)) (hinfo:(P.info? e).map (fun i=>(i.zero,i.size,i.bytes))=some (some z,1,bytes)) (hz:z.cells.size=1)
  (v:Value) (n:Nat) (xs:List Value) (hs:a.eval s=v) (hown:wr.ownsRow B e 1 v n xs)
  (cs:Array Value) (m:Nat) (hm:cs.size=m) (hx:a.eval x=.slice (some ⟨wr.heap.size,0,none⟩) m m) (h1: ∀u∈cs.toList,u.oneCell'=true)
  (hroom:(n+m)*bytes≤140737488355328) (hroom':n+m≤maxLen) (hB:B≤wr.heap.size)
  (hK: ∀v' w1,w1.ownsRow B e 1 v' (n+m) (xs++cs.toList)→Below B wr w1→wpList P ops Q rest (a.put o.dst v') w1):
  wpList P ops Q (o::rest) a (wr.alloc (.cells cs e)):=
 wpList_append_newG wr hg s x t hop B e z bytes ht hinfo hz v n xs hs hown cs m hm hx h1 hroom hroom' hB (fun v' w1 a b _=>hK v' w1 a b)
theorem own_below{w w':World}{B:Nat}{e:TypeId}{size:Nat}{v:Value}{n:Nat}{xs:List Value}(h:w.ownsRow B e size v n xs)(hb:Below w.heap.size w w'):w'.ownsRow B e size v n xs:=
 h.kept (row:=none) ⟨hb.os,hb.tape,hb.output,hb.size,fun k hk _=>hb.block k hk⟩ (by cases hv:v.ownBlock<;>simp)
theorem grow_trans{w w1 w2:World}{row:Option Nat}(h:w.grownBy w1 row)(hb:w1.grownBy w2 row):w.grownBy w2 row:=
 ⟨hb.os.trans h.os,hb.tape.trans h.tape,hb.output.trans h.output,Nat.le_trans h.size hb.size,fun k hk hne=>(hb.block k (Nat.lt_of_lt_of_le hk h.size) hne).trans (h.block k hk hne)⟩
theorem own_shape{w:World}{B:Nat}{e:TypeId}{v:Value}{n:Nat}{xs:List Value}(h:w.ownsRow B e 1 v n xs):
  (n=0∧xs=[]∧ ∃ao cap,v=.slice ao 0 cap)∨(0<n∧ ∃g cap,v=.slice (some ⟨g,0,none⟩) n cap):=by
 have hl:=h.1
 rcases h.2 with ⟨rfl,rfl⟩|⟨g,cap,cur,rfl,_⟩
 ·exact .inl ⟨rfl,List.eq_nil_of_length_eq_zero (by simpa using hl),none,0,rfl⟩
 by_cases h0:n=0
 ·subst h0
  exact .inl ⟨rfl,List.eq_nil_of_length_eq_zero (by simpa using hl),_,cap,rfl⟩
 exact .inr ⟨by omega,g,cap,rfl⟩
def scells(l:List ByteArray):List Value:=l.map Value.string
theorem scells_snoc(l:List ByteArray)(s:ByteArray):scells (l++[s])=scells l++[Value.string s]:=by simp[scells]
theorem scell_at{w:World}{B:Nat}{e:TypeId}{g n cap:Nat}{fs:List ByteArray}(h:w.ownsRow B e 1 (.slice (some ⟨g,0,none⟩) n cap) n (scells fs))(k:Nat)(hk:k<n):
  w.cell? ⟨g,k,none⟩=some (.string (fs.getD k ByteArray.empty)):=by
 have hl:fs.length=n:=by have:=h.1;simpa[scells] using this
 rw[h.cellAt k (by omega)]
 simp[scells,List.getD,show k<fs.length by omega]
def icells(l:List Int):List Value:=l.map (Value.int .i64)
theorem icells_length(l:List Int):(icells l).length=l.length:=by simp[icells]
theorem icell_at{w:World}{B:Nat}{e:TypeId}{g n cap:Nat}{zs:List Int}(h:w.ownsRow B e 1 (.slice (some ⟨g,0,none⟩) n cap) n (icells zs))(k:Nat)(hk:k<n):
  w.cell? ⟨g,k,none⟩=some (.int .i64 (zs.getD k 0)):=by
 have hl:zs.length=n:=by have:=h.1;simpa[icells] using this
 rw[h.cellAt k (by omega)]
 simp[icells,List.getD,show k<zs.length by omega]
theorem ztake_snoc(l:List Int)(k:Nat)(h:k<l.length):l.take (k+1)=l.take k++[l.getD k 0]:=by
 rw[List.take_succ_eq_append_getElem h]
 simp[List.getD,h]
theorem ret_bool{a b:Bool}(h:a=b):Ending.returned (.bool a)=.returned (.bool b):=by rw[h]
theorem ret_int{k:IntKind}{a b:Int}(h:a=b):Ending.returned (.int k a)=.returned (.int k b):=by rw[h]
theorem take_snoc(s:ByteArray)(k:Nat)(h:k<s.size):s.data.toList.take (k+1)=s.data.toList.take k++[s[k]]:=by
 rw[List.take_succ_eq_append_getElem (by simpa using h)];rfl
theorem take_all(s:ByteArray)(k:Nat)(h:s.size≤k):s.data.toList.take k=s.data.toList:=List.take_of_length_le (by simpa using h)
def upB(c:UInt8)(l:List UInt8):List UInt8:=l.takeWhile fun x=>x !=c
def behB(c:UInt8)(l:List UInt8):List UInt8:=(l.dropWhile fun x=>x !=c).drop 1
theorem index_while(c:UInt8): ∀l:List UInt8,Lib.index l [c]=if l.contains c then ((upB c l).length:Int)else-1
 |[]=>rfl
 |b::l=>by
  have ih:=index_while c l
  unfold upB at ih⊢
  unfold Lib.index
  by_cases h:b=c
  ·subst h
   simp
  have h1:([c].isPrefixOf (b::l))=false:=by
   simp[List.isPrefixOf,Ne.symm h]
  have h2:(b::l).contains c=l.contains c:=by
   simp[Ne.symm h]
  have h3:(b !=c)=true:=bne_iff_ne.2 h
  rw[h1,h2,ih,List.takeWhile_cons,h3]
  cases hc:l.contains c
  ·simp
  have h4:(((List.takeWhile (fun x=>x !=c) l).length:Int)== -1)=false:=beq_eq_false_iff_ne.2 (by omega)
  simp[h4]
theorem up_beh(c:UInt8)(l:List UInt8):(l.contains c=true→l=upB c l++c::behB c l)∧(l.contains c=false→upB c l=l∧behB c l=[])∧c∉upB c l:=by
 unfold upB behB
 induction l with
 |nil=>simp
 |cons b l ih=>
  by_cases h:b=c
  ·subst h;simp
  have h3:(b !=c)=true:=bne_iff_ne.2 h
  have h2:(b::l).contains c=l.contains c:=by simp[Ne.symm h]
  rw[h2,List.takeWhile_cons,List.dropWhile_cons,h3]
  refine ⟨fun hc=> ?_,fun hc=> ?_,?_⟩
  ·have:=ih.1 hc
   simp only[if_true,List.cons_append,List.cons.injEq,true_and]
   exact this
  ·have:=ih.2.1 hc
   simp only[if_true,this.1,this.2,and_self]
  simp only[if_true,List.mem_cons,not_or]
  exact ⟨Ne.symm h,ih.2.2⟩
def letterN(c:Nat):Bool:=decide (97≤c∧c≤122)||decide (65≤c∧c≤90)
def hexN(c:Nat):Int:=if 48≤c∧c≤57 then (c:Int)-48 else if 97≤c∧c≤102 then (c:Int)-87 else if 65≤c∧c≤70 then (c:Int)-55 else-1
theorem hexN_le(c:Nat): -1≤hexN c∧hexN c≤15:=by
 unfold hexN
 split
 ·omega
 split
 ·omega
 split<;>omega
theorem drop_at(s:ByteArray)(k:Nat)(h:k<s.size):s.data.toList.drop k=s[k]::s.data.toList.drop (k+1):=by
 have hk:k<s.data.toList.length:=by simpa using h
 rw[List.drop_eq_getElem_cons hk]
 rfl
def digF(base:Nat):Nat→List UInt8→Option Nat
 |n,[]=>some n
 |n,c::r=>if 0≤hexN c.toNat∧hexN c.toNat<(base:Int)then digF base (n*base+(hexN c.toNat).toNat) r else none
def numL(base most:Nat)(l:List UInt8):Option Nat:=if l.length≤most then digF base 0 l else none
theorem digF_all{base:Nat}: ∀{l:List UInt8} {n v:Nat},digF base n l=some v→ ∀c∈l,0≤hexN c.toNat∧hexN c.toNat<(base:Int)
 |[],_,_,_,c,hc=>by simp at hc
 |d::r,n,v,h,c,hc=>by
  rw[digF]at h
  split at h
  ·rename_i hd
   rcases List.mem_cons.1 hc with rfl|hc
   ·exact hd
   exact digF_all h c hc
  cases h
theorem Tryz.info5:(Tryz.prog.info? 5).map (fun i=>(i.zero,i.size,i.bytes))=some (some (.int .u8 0),1,1):=by kernel_rfl
def runeOk(r:Int):Prop:=0≤r∧r≤1114111∧(r<55296∨57343<r)
end Go.Proofs.YtfdgehlobbeomaaGreatDoor
namespace Go.Proofs.YtfdgehlobbeomaaGreatDoor
open Go.RowKit
set_option linter.unusedVariables false
def nAmp:List UInt8:=[97,109,112]
def nLt:List UInt8:=[108,116]
def nGt:List UInt8:=[103,116]
def nQuot:List UInt8:=[113,117,111,116]
def nApos:List UInt8:=[97,112,111,115]
def escC(c:UInt8):List UInt8:=
 if c=38 then 38::(nAmp++[59])else if c=60 then 38::(nLt++[59])else if c=62 then 38::(nGt++[59])else if c=34 then 38::(nQuot++[59])else if c=39 then 38::(nApos++[59])else [c]
def escL(l:List UInt8):List UInt8:=l.flatMap escC
def hashN(n:List UInt8):Option Nat:=match n with
 |35::120::c::r=>numL 16 6 (c::r)
 |35::c::r=>numL 10 7 (c::r)
 |_=>none
def nameR(n:List UInt8):Option Nat:=
 if n=nAmp then some 38 else if n=nLt then some 60 else if n=nGt then some 62 else if n=nQuot then some 34 else if n=nApos then some 39 else match hashN n with
  |some r=>if 0<r∧r≤1114111∧(r<55296∨57343<r)then some r else none
  |none=>none
def unE:Nat→List UInt8→Option (List UInt8)
 |0,_=>some []
 |_,[]=>some []
 |n+1,c::r=>if c=38 then (if r.contains 59=true then (match nameR (upB 59 r)with
   |some x=>(unE n (behB 59 r)).map fun t=>Lib.encodeRune (x:Int)++t
   |none=>none)else none)else (unE n r).map fun t=>c::t
def unF(l:List UInt8):Option (List UInt8):=unE l.length l
theorem beh_len(r:List UInt8):(behB 59 r).length≤r.length:=by
 unfold behB
 rw[List.length_drop]
 have:=(List.dropWhile_sublist (fun x=>x !=59) (l:=r)).length_le
 omega
theorem unE_fuel: ∀(n m:Nat) (l:List UInt8),l.length≤n→l.length≤m→unE n l=unE m l
 |0,m,l,h,_=>by
  have:l=[]:=List.eq_nil_of_length_eq_zero (by omega)
  subst this
  cases m<;>rfl
 |n+1,0,l,_,h=>by
  have:l=[]:=List.eq_nil_of_length_eq_zero (by omega)
  subst this
  rfl
 |n+1,m+1,[],_,_=>rfl
 |n+1,m+1,c::r,h1,h2=>by
  have hb:=beh_len r
  simp only[List.length_cons]at h1 h2
  rw[unE,unE,unE_fuel n m r (by omega) (by omega),unE_fuel n m (behB 59 r) (by omega) (by omega)]
theorem unF_byte{c:UInt8}(h:c≠38)(r:List UInt8):unF (c::r)=(unF r).map fun t=>c::t:=by
 unfold unF
 rw[List.length_cons,unE,if_neg h]
theorem unF_amp(r:List UInt8):unF (38::r)=if r.contains 59=true then (match nameR (upB 59 r)with
   |some x=>(unF (behB 59 r)).map fun t=>Lib.encodeRune (x:Int)++t
   |none=>none)else none:=by
 unfold unF
 rw[List.length_cons,unE,if_pos rfl,unE_fuel r.length (behB 59 r).length (behB 59 r) (beh_len r) (Nat.le_refl _)]
theorem up_app{n r:List UInt8}(h:59∉n):upB 59 (n++59::r)=n∧behB 59 (n++59::r)=r∧(n++59::r).contains 59=true:=by
 unfold upB behB
 refine ⟨?_,?_,by simp⟩
 ·rw[List.takeWhile_append_of_pos (fun a ha=>bne_iff_ne.2 fun e=>h (by rw[←e];exact ha))]
  simp
 rw[List.dropWhile_append_of_pos (fun a ha=>bne_iff_ne.2 fun e=>h (by rw[←e];exact ha))]
 simp
theorem un_name{n:List UInt8}{x:Nat}(h:59∉n)(hn:nameR n=some x)(r:List UInt8):unF (38::(n++59::r))=(unF r).map fun t=>Lib.encodeRune (x:Int)++t:=by
 obtain ⟨h1,h2,h3⟩:=up_app (r:=r) h
 rw[unF_amp,h3,if_pos rfl,h1,hn,h2]
theorem esc_one(c:UInt8)(r:List UInt8):unF (escC c++r)=(unF r).map fun t=>c::t:=by
 unfold escC
 split
 ·rename_i h;subst h
  rw[List.cons_append,List.append_assoc]
  exact un_name (n:=nAmp) (by decide) rfl r
 split
 ·rename_i h;subst h
  rw[List.cons_append,List.append_assoc]
  exact un_name (n:=nLt) (by decide) rfl r
 split
 ·rename_i h;subst h
  rw[List.cons_append,List.append_assoc]
  exact un_name (n:=nGt) (by decide) rfl r
 split
 ·rename_i h;subst h
  rw[List.cons_append,List.append_assoc]
  exact un_name (n:=nQuot) (by decide) rfl r
 split
 ·rename_i h;subst h
  rw[List.cons_append,List.append_assoc]
  exact un_name (n:=nApos) (by decide) rfl r
 rename_i h _ _ _ _
 exact unF_byte h r
theorem un_esc: ∀l:List UInt8,unF (escL l)=some l
 |[]=>rfl
 |c::l=>by
  unfold escL
  rw[List.flatMap_cons,esc_one]
  show ((unF (escL l)).map _)=_
  rw[un_esc l]
  rfl
theorem esc_len(l:List UInt8):(escL l).length≤6*l.length:=by
 induction l with
 |nil=>exact Nat.le_refl _
 |cons c l ih=>
  unfold escL at ih⊢
  rw[List.flatMap_cons,List.length_append,List.length_cons]
  have:(escC c).length≤6:=by
   unfold escC
   split
   ·decide
   split
   ·decide
   split
   ·decide
   split
   ·decide
   split
   ·decide
   exact (by decide:1≤6)
  omega
theorem esc_free(l:List UInt8): ∀c∈escL l,c≠60∧c≠62∧c≠34:=by
 intro c hc
 obtain ⟨x,_,hx⟩:=List.mem_flatMap.1 hc
 unfold escC at hx
 revert hx
 split
 ·intro h;clear hc;revert c;decide
 split
 ·intro h;clear hc;revert c;decide
 split
 ·intro h;clear hc;revert c;decide
 split
 ·intro h;clear hc;revert c;decide
 split
 ·intro h;clear hc;revert c;decide
 rename_i h1 h2 h3 h4 _
 intro h
 rw[List.mem_singleton.1 h]
 exact ⟨h2,h3,h4⟩
end Go.Proofs.YtfdgehlobbeomaaGreatDoor
