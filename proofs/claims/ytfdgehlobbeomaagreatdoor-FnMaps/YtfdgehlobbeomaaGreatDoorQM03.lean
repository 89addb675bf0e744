/- LaidEsc, RowStr, TokRow, HexWalk. -/
import Derived.Test.YtfdgehlobbeomaaGreatDoorQM02
import Derived.Lib.LaidIn
import Derived.Lib.LaidU8
import Derived.Deep.DeepHandedRow
import Derived.Deep.DeepWitnessRowRef
import Derived.OpenVars
import Derived.BigQuiet
set_option maxHeartbeats 1000000
namespace Go.Proofs.YtfdgehlobbeomaaGreatDoor
open Go.ChangeShapes Go.WideShapes Go.ChangeAt Go.RowKit Go.Lib
theorem ownMarks:ownKnob Tryz.prog.godebug=none:=by kernel_rfl
theorem laidOutMarks:laidOutB Tryz.prog=true:=by kernel_rfl
def escData:DataW Unit:=.agg ((List.range 5).map fun i=> .agg [.lit (.int .u8 (escM i:Int)),.lit (.string (escN i))])
theorem esc_data:(Rows.laid_loop_example_g00191_impl_escapes:DataW Unit)=escData:=by kernel_rfl
theorem esc_row(i:Nat)(h:i<5):escRow[2*i]? =some (.int .u8 (escM i:Int))∧escRow[2*i+1]? =some (.string ⟨(escN i).toArray⟩):=by
 match i,h with
 |0,_=>exact ⟨rfl,rfl⟩
 |1,_=>exact ⟨rfl,rfl⟩
 |2,_=>exact ⟨rfl,rfl⟩
 |3,_=>exact ⟨rfl,rfl⟩
 |4,_=>exact ⟨rfl,rfl⟩
theorem esc_of_reads{P:Program}{w:World}{name:String}{g:Nat}{t e:TypeId}{f0 f1:Field}(hn:P.globalNamed name=some g)(hy:(P.globals[g]?).map (·.type)=some t)(ht:P.underlying t=some (.array 5 e))(he:P.underlying e=some (.struct #[f0,f1]))
  (h0:P.underlying f0.type=some (.int .u8)) (h1:P.underlying f1.type=some .string) (o0:f0.offset=0) (o1:f1.offset=1) (c0:P.cellsOf f0.type=1) (c1:P.cellsOf f1.type=1) (hce:P.cellsOf e=2)
  (h:VarReads P w name escData): ∀i,i<5→w.cell? ⟨g,2*i,none⟩=some (.int .u8 (escM i:Int))∧w.cell? ⟨g,2*i+1,none⟩=some (.string ⟨(escN i).toArray⟩):=by
 intro c hc
 obtain ⟨g',t',cs,fuel,p,hg,hty,hvar,hd⟩:=h
 obtain rfl:=Option.some.inj (hn.symm.trans hg)
 obtain rfl:=Option.some.inj (hy.symm.trans hty)
 unfold escData at hd
 obtain ⟨fuel',d,q,hdi,hx⟩:=array_elem ht hd c hc
 simp only[List.getElem?_map,List.getElem?_range hc,Option.map_some,Option.some.injEq]at hdi
 subst hdi
 rw[hce]at hx
 obtain ⟨y0,y1,n,hxx,hl,q0,q1⟩:=trod_struct2 he hx
 rw[o0,c0]at q0
 rw[o1,c1]at q1
 obtain ⟨z,hz,rfl,_⟩:=DataW.trod_int h0 q0
 obtain ⟨s,hs,rfl,_⟩:=DataW.trod_string h1 q1
 simp only[Prod.mk.injEq,DataW.agg.injEq,List.cons.injEq,DataW.lit.injEq,Lit.int.injEq,Lit.string.injEq,true_and,and_true]at hxx
 obtain ⟨⟨hz2,hs2⟩,_⟩:=hxx
 have e0:=congrArg (·[0]?) hz
 have e1:=congrArg (·[0]?) hs
 simp only[List.getElem?_take,List.getElem?_drop]at e0 e1
 refine ⟨?_,?_⟩
 ·rw[World.var?_cell hg hvar (2*c),←Array.getElem?_toList,hz2,Nat.mul_comm]
  simpa using e0
 rw[World.var?_cell hg hvar (2*c+1),←Array.getElem?_toList,hs2,Lib.mk_data,Nat.mul_comm]
 simpa using e1
theorem esc_is{w:World}(h: ∀i,i<5→w.cell? ⟨0,2*i,none⟩=some (.int .u8 (escM i:Int))∧w.cell? ⟨0,2*i+1,none⟩=some (.string ⟨(escN i).toArray⟩)):Esc w:=fun j v hv=>by
 have hj:j<10:=(List.getElem?_eq_some_iff.1 hv).1
 obtain ⟨a,b⟩:=h (j/2) (by omega)
 obtain ⟨c,d⟩:=esc_row (j/2) (by omega)
 by_cases hm:j%2=0
 ·rw[show 2*(j/2)=j by omega]at a c
  rw[a,←c,hv]
 rw[show 2*(j/2)+1=j by omega]at b d
 rw[b,←d,hv]
theorem esc_reads{W:World}(h:VarReads Tryz.prog W "loop.example/g00191/impl.escapes" Rows.laid_loop_example_g00191_impl_escapes):Esc W:=by
 rw[esc_data]at h
 exact esc_is (esc_of_reads (P:=Tryz.prog) (g:=0) (t:=118) (e:=117) (by kernel_rfl) (by kernel_rfl) (by kernel_rfl) Tryz.underlying117 (by kernel_rfl) (by kernel_rfl) rfl rfl (by kernel_rfl) (by kernel_rfl) (by kernel_rfl) h)
theorem vars_one{H:Type}{enc:TypeId×Value→H}{P:Program}{w:World}{sp:Nat→Bool}{n0:String}{gs:List (DataW H)}{ps:List MemPlace}(h:DataW.TrodVars enc P w sp [n0] gs ps): ∃g0,gs=[g0]:=by
 match gs,h with
 |[],h=>exact h.elim
 |[a],_=>exact ⟨a,rfl⟩
 |_::_::_,⟨_,_,_,_,_,_,_,_,_,_,h,_⟩=>exact h.elim
def putEsc:Obj→Obj
 | .cells _ t frozen=> .cells escRow.toArray t frozen
 |o=>o
def escHeap(h:Array Obj):Array Obj:=h.modify 0 putEsc
def laidEsc3:List (String×DataW Unit):=[("unicode/utf8.acceptRanges",Rows.laid_unicode_utf8_acceptRanges),("loop.example/g00191/impl.escapes",Rows.laid_loop_example_g00191_impl_escapes),("unicode/utf8.first",Rows.laid_unicode_utf8_first)]
theorem laid_esc3{W:World}(hL:laidMet Tryz.prog laidEsc3 W):Esc W:=esc_reads (Lib.laidMet.reads hL (.tail _ (.head _)))
def putCells3(cs:Array Value):Obj→Obj
 | .cells _ t frozen=> .cells cs t frozen
 |o=>o
def esc3Heap(h:Array Obj):Array Obj:=
 ((escHeap h).modify 2 (putCells3 (Lib.firstTab.map fun z=>Value.int .u8 z).toArray)).modify 3 (putCells3 ((List.range 16).flatMap fun i=>[Value.int .u8 (Lib.accLo i),Value.int .u8 (Lib.accHi i)]).toArray)
theorem esc3_met(os:Os)(args:Array Value):laidMet Tryz.prog laidEsc3 (({World.holding Tryz.prog os ⟨#[],#[],[]⟩with heap:=esc3Heap (World.holding Tryz.prog os ⟨#[],#[],[]⟩).heap}:World).forCall (fun _ _=>0) ⟨#[],args,[]⟩).memory:=
 (LaidIn.of_run (l:=laidEsc3) [3,0,2] 8 (by kernel_rfl) (by kernel_rfl) (by kernel_rfl) (by kernel_rfl)).met
end Go.Proofs.YtfdgehlobbeomaaGreatDoor
namespace Go.Proofs.YtfdgehlobbeomaaGreatDoor
open Go.RowKit
theorem ba_eq{a b:ByteArray}:a=b↔a.data.toList=b.data.toList:=⟨fun h=>by rw[h],fun h=>by
 cases a;cases b
 congr
 exact Array.toList_inj.1 h⟩
theorem own_room{w:World}{B:Nat}{e:TypeId}{size g n cap:Nat}{xs:List Value}(h:w.ownsRow B e size (.slice (some ⟨g,0,none⟩) n cap) n xs):n≤cap:=by
 rcases h.2 with ⟨h,_⟩|⟨_,_,_,h,_,_,h3,_⟩
 ·cases h
 cases h;exact h3
def StrRow(w:World)(v:Value)(l:List ByteArray):Prop:=
 (l=[]∧ ∃ao cap,v=.slice ao 0 cap)∨(0<l.length∧ ∃g off cap,v=.slice (some ⟨g,off,none⟩) l.length (l.length+cap)∧g<w.heap.size∧ ∀i,i<l.length→w.cell? ⟨g,off+i,none⟩=some (.string (l.getD i ByteArray.empty)))
theorem StrRow.same{w w':World}{v:Value}{l:List ByteArray}(h:StrRow w v l)(hs:w.heap.size≤w'.heap.size)(hb: ∀k,k<w.heap.size→w'.heap[k]? =w.heap[k]?):StrRow w' v l:=by
 rcases h with h|⟨h0,g,off,cap,h1,h2,h3⟩
 ·exact .inl h
 exact .inr ⟨h0,g,off,cap,h1,by omega,fun i hi=>(World.cell?_of_block (w:=w) (a:=⟨g,off+i,none⟩) (hb g h2)).trans (h3 i hi)⟩
theorem StrRow.below{w w':World}{v:Value}{l:List ByteArray}(h:StrRow w v l)(hb:Below w.heap.size w w'):StrRow w' v l:=h.same hb.size hb.block
theorem StrRow.of_own{w:World}{B:Nat}{e:TypeId}{v:Value}{l:List ByteArray}{n:Nat}(h:w.ownsRow B e 1 v n (scells l)):StrRow w v l:=by
 have hl:l.length=n:=by have:=h.1;simpa[scells] using this
 subst hl
 rcases own_shape h with ⟨h0,h1,ao,cap,rfl⟩|⟨h0,g,cap,rfl⟩
 ·refine .inl ⟨List.eq_nil_of_length_eq_zero h0,ao,cap,?_⟩
  rfl
 exact .inr ⟨h0,g,0,cap-l.length,by rw[Nat.add_sub_cancel' (own_room h)],(h.lt g rfl).2,fun i hi=>by rw[Nat.zero_add];exact scell_at h i hi⟩
theorem StrRow.slice{w:World}{v:Value}{l:List ByteArray}(h:StrRow w v l): ∃ao cap,v=.slice ao l.length cap:=by
 rcases h with ⟨rfl,ao,cap,rfl⟩|⟨_,g,off,cap,h1,_⟩
 ·exact ⟨ao,cap,rfl⟩
 exact ⟨_,_,h1⟩
theorem StrRow.nil(w:World)(ao:Option Addr)(cap:Nat):StrRow w (.slice ao 0 cap) []:=.inl ⟨rfl,ao,cap,rfl⟩
end Go.Proofs.YtfdgehlobbeomaaGreatDoor
namespace Go.Proofs.YtfdgehlobbeomaaGreatDoor
open Go.RowKit
set_option linter.unusedVariables false
structure TV where
 k:Int
 s:ByteArray
def tv0:TV:=⟨0,ByteArray.empty⟩
def TokRow(w:World)(v:Value)(l:List TV):Prop:=
 (l=[]∧ ∃ao cap,v=.slice ao 0 cap)∨(0<l.length∧ ∃g off cap,v=.slice (some ⟨g,off,none⟩) l.length (l.length+cap)∧g<w.heap.size∧ ∀i,i<l.length→w.cell? ⟨g,off+i*2,none⟩=some (.int .i64 (l.getD i tv0).k)∧w.cell? ⟨g,off+i*2+1,none⟩=some (.string (l.getD i tv0).s))
theorem TokRow.same{w w':World}{v:Value}{l:List TV}(h:TokRow w v l)(hs:w.heap.size≤w'.heap.size)(hb: ∀k,k<w.heap.size→w'.heap[k]? =w.heap[k]?):TokRow w' v l:=by
 rcases h with h|⟨h0,g,off,cap,h1,h2,h3⟩
 ·exact .inl h
 exact .inr ⟨h0,g,off,cap,h1,by omega,fun i hi=>⟨(World.cell?_of_block (w:=w) (a:=⟨g,off+i*2,none⟩) (hb g h2)).trans (h3 i hi).1,(World.cell?_of_block (w:=w) (a:=⟨g,off+i*2+1,none⟩) (hb g h2)).trans (h3 i hi).2⟩⟩
theorem TokRow.below{w w':World}{v:Value}{l:List TV}(h:TokRow w v l)(hb:Below w.heap.size w w'):TokRow w' v l:=h.same hb.size hb.block
theorem TokRow.slice{w:World}{v:Value}{l:List TV}(h:TokRow w v l): ∃ao cap,v=.slice ao l.length cap:=by
 rcases h with ⟨rfl,ao,cap,rfl⟩|⟨_,g,off,cap,h1,_⟩
 ·exact ⟨ao,cap,rfl⟩
 exact ⟨_,_,h1⟩
theorem TokRow.of_own{w:World}{base:Nat}{e:TypeId}{v:Value}{l:List TV}{vs:List Value}(h:w.ownsRow base e 2 v l.length vs)
  (hin: ∀i,i<l.length→vs[i*2]? =some (.int .i64 (l.getD i tv0).k)∧vs[i*2+1]? =some (.string (l.getD i tv0).s)):TokRow w v l:=by
 by_cases h0:l.length=0
 ·have hl:l=[]:=List.eq_nil_of_length_eq_zero h0
  rw[h0]at h
  rcases h.2 with ⟨rfl,_⟩|⟨g,cap,cur,rfl,_⟩
  ·exact .inl ⟨hl,_,_,rfl⟩
  exact .inl ⟨hl,_,_,rfl⟩
 rcases h.2 with ⟨_,h1⟩|⟨g,cap,cur,rfl,_⟩
 ·exact absurd h1 h0
 refine .inr ⟨by omega,g,0,cap-l.length,by rw[Nat.add_sub_cancel' (own_room h)],(h.lt g rfl).2,fun i hi=> ?_⟩
 obtain ⟨h1,h2⟩:=hin i hi
 refine ⟨?_,?_⟩
 ·rw[Nat.zero_add,h.cellAt (i*2) (by omega)];exact h1
 rw[Nat.zero_add,h.cellAt (i*2+1) (by omega)];exact h2
def tcells(l:List TV):List Value:=l.flatMap fun x=>[.int .i64 x.k,.string x.s]
theorem tcells_length: ∀l:List TV,(tcells l).length=l.length*2
 |[]=>rfl
 |x::l=>by
  have:=tcells_length l
  unfold tcells at this⊢
  rw[List.flatMap_cons,List.length_append,this]
  simp only[List.length_cons,List.length_nil]
  omega
theorem tcells_append(l m:List TV):tcells (l++m)=tcells l++tcells m:=by unfold tcells;rw[List.flatMap_append]
theorem tcells_cons(x:TV)(l:List TV):tcells (x::l)=.int .i64 x.k::.string x.s::tcells l:=rfl
theorem tcells_at: ∀(l:List TV) (i:Nat),i<l.length→(tcells l)[i*2]? =some (.int .i64 (l.getD i tv0).k)∧(tcells l)[i*2+1]? =some (.string (l.getD i tv0).s)
 |[],i,h=>absurd h (Nat.not_lt_zero _)
 |x::l,0,_=>⟨rfl,rfl⟩
 |x::l,i+1,h=>by
  have:=tcells_at l i (by simpa using h)
  rw[tcells_cons,show (i+1)*2=i*2+1+1 by omega]
  exact this
theorem tcells_one'(l:List TV): ∀u∈tcells l,u.oneCell'=true:=by
 intro u hu
 obtain ⟨x,_,hx⟩:=List.mem_flatMap.1 hu
 simp at hx
 rcases hx with rfl|rfl<;>rfl
theorem tcells_set(l:List TV)(i:Nat)(h:i<l.length)(x:TV):((tcells l).set (i*2) (.int .i64 x.k)).set (i*2+1) (.string x.s)=tcells (l.set i x):=by
 refine List.ext_getElem? fun j=> ?_
 have hl:=tcells_length l
 by_cases hj:j<l.length*2
 ·obtain ⟨m,hm⟩: ∃m,m=j/2:=⟨_,rfl⟩
  have hml:m<l.length:=by omega
  have e0:=tcells_at l m hml
  have e1:=tcells_at (l.set i x) m (by rw[List.length_set];exact hml)
  have hg:(l.set i x).getD m tv0=if i=m then x else l.getD m tv0:=by
   rw[List.getD_eq_getElem?_getD,List.getD_eq_getElem?_getD,List.getElem?_set]
   split
   ·rename_i he;subst he;simp
   rfl
  rw[hg]at e1
  by_cases hmod:j%2=0
  ·obtain rfl:j=m*2:=by omega
   rw[e1.1,List.getElem?_set_ne (by omega)]
   by_cases him:i=m
   ·subst him;rw[List.getElem?_set_self (by omega),if_pos rfl]
   rw[List.getElem?_set_ne (by omega),e0.1,if_neg him]
  obtain rfl:j=m*2+1:=by omega
  rw[e1.2]
  by_cases him:i=m
  ·subst him;rw[List.getElem?_set_self (by rw[List.length_set];omega),if_pos rfl]
  rw[List.getElem?_set_ne (by omega),List.getElem?_set_ne (by omega),e0.2,if_neg him]
 rw[List.getElem?_eq_none (by rw[List.length_set,List.length_set];omega),List.getElem?_eq_none (by rw[tcells_length,List.length_set];omega)]
theorem TokRow.of_own'{w:World}{base:Nat}{e:TypeId}{v:Value}{l:List TV}(h:w.ownsRow base e 2 v l.length (tcells l)):TokRow w v l:=TokRow.of_own h fun i hi=>tcells_at l i hi
end Go.Proofs.YtfdgehlobbeomaaGreatDoor
namespace Go.Proofs.YtfdgehlobbeomaaGreatDoor
open Go.RowKit
theorem hexN_09{c:Nat}(h1:48≤(c:Int))(h2:(c:Int)≤57):hexN c=(c:Int)-48:=by unfold hexN;rw[if_pos (by omega)]
theorem hexN_az{c:Nat}(h1:97≤(c:Int))(h2:(c:Int)≤102):hexN c=(c:Int)-87:=by unfold hexN;rw[if_neg (by omega),if_pos (by omega)]
theorem hexN_AZ{c:Nat}(h1:65≤(c:Int))(h2:(c:Int)≤70):hexN c=(c:Int)-55:=by unfold hexN;rw[if_neg (by omega),if_neg (by omega),if_pos (by omega)]
theorem hexN_no{c:Nat}(h1: ¬(48≤(c:Int)∧(c:Int)≤57))(h2: ¬(97≤(c:Int)∧(c:Int)≤102))(h3: ¬(65≤(c:Int)∧(c:Int)≤70)):hexN c= -1:=by unfold hexN;rw[if_neg (by omega),if_neg (by omega),if_neg (by omega)]
theorem implIsDigit(c:Nat)(w:World)(hc:c≤255):
  Calls Tryz.prog 65 #[.int .u8 (c:Int)] w fun e w'=>e=.returned (.bool (decide (48≤(c:Int)∧(c:Int)≤57)))∧w=w':=by
 by_cases h1:48≤(c:Int)
 ·go_enter Tryz.func65,Tryz.ntmps65
  go_wp2
  go_ret
  exact ⟨ret_bool (by simp[h1]<;>omega),rfl⟩
 go_enter Tryz.func65,Tryz.ntmps65
 go_wp2
 go_ret
 exact ⟨ret_bool (by simp<;>omega),rfl⟩
theorem implHex(c:Nat)(w:World)(hc:c≤255):
  Calls Tryz.prog 48 #[.int .u8 (c:Int)] w fun e w'=>e=.returned (.int .i64 (hexN c))∧w=w':=by
 by_cases h1:48≤(c:Int)∧(c:Int)≤57
 ·obtain ⟨a1,a2⟩:=h1
  go_enter Tryz.func48,Tryz.ntmps48
  go_wp2_with fail
  refine (implIsDigit c _ hc).mono ?_
  rintro e w' ⟨rfl,rfl⟩
  rw[decide_eq_true (show 48≤(c:Int)∧(c:Int)≤57 from ⟨a1,a2⟩)]
  go_wp2
  go_ret
  exact ⟨ret_int (by rw[hexN_09 a1 a2]),rfl⟩
 by_cases h2:97≤(c:Int)∧(c:Int)≤102
 ·obtain ⟨a1,a2⟩:=h2
  have H1:Hid (¬(48≤(c:Int)∧(c:Int)≤57)):=h1
  clear h1
  go_enter Tryz.func48,Tryz.ntmps48
  go_wp2_with fail
  refine (implIsDigit c _ hc).mono ?_
  rintro e w' ⟨rfl,rfl⟩
  rw[decide_eq_false H1.out]
  go_wp2
  go_ret
  exact ⟨ret_int (by rw[hexN_az a1 a2]<;>omega),rfl⟩
 by_cases h3:65≤(c:Int)∧(c:Int)≤70
 ·obtain ⟨a1,a2⟩:=h3
  have H1:Hid (¬(48≤(c:Int)∧(c:Int)≤57)):=h1
  clear h1 h2
  have h4: ¬97≤(c:Int):=by omega
  go_enter Tryz.func48,Tryz.ntmps48
  go_wp2_with fail
  refine (implIsDigit c _ hc).mono ?_
  rintro e w' ⟨rfl,rfl⟩
  rw[decide_eq_false H1.out]
  go_wp2
  go_ret
  exact ⟨ret_int (by rw[hexN_AZ a1 a2]<;>omega),rfl⟩
 have H1:Hid (¬(48≤(c:Int)∧(c:Int)≤57)):=h1
 have H0:Hid (hexN c= -1):=hexN_no h1 h2 h3
 clear h1
 rcases Int.lt_or_le (c:Int) 97 with h4|h4
 ·rcases Int.lt_or_le (c:Int) 65 with h5|h5
  ·clear h2 h3
   go_enter Tryz.func48,Tryz.ntmps48
   go_wp2_with fail
   refine (implIsDigit c _ hc).mono ?_
   rintro e w' ⟨rfl,rfl⟩
   rw[decide_eq_false H1.out]
   go_wp2
   go_ret
   exact ⟨ret_int (by rw[H0.out]),rfl⟩
  have h6: ¬(c:Int)≤70:=by omega
  clear h2 h3
  go_enter Tryz.func48,Tryz.ntmps48
  go_wp2_with fail
  refine (implIsDigit c _ hc).mono ?_
  rintro e w' ⟨rfl,rfl⟩
  rw[decide_eq_false H1.out]
  go_wp2
  go_ret
  exact ⟨ret_int (by rw[H0.out]),rfl⟩
 have h6: ¬(c:Int)≤102:=by omega
 have h7: ¬(c:Int)≤70:=by omega
 have h8:65≤(c:Int):=by omega
 clear h2 h3
 go_enter Tryz.func48,Tryz.ntmps48
 go_wp2_with fail
 refine (implIsDigit c _ hc).mono ?_
 rintro e w' ⟨rfl,rfl⟩
 rw[decide_eq_false H1.out]
 go_wp2
 go_ret
 exact ⟨ret_int (by rw[H0.out]),rfl⟩
end Go.Proofs.YtfdgehlobbeomaaGreatDoor
