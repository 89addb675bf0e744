/- RuleMap, ParseAdd, LabWalk, RuleSpec. -/
import Derived.Test.YtijliddchoehhaaGreatDoorQA06
import Derived.Maps.Own
import Derived.Maps.Views
import Derived.StringKeys
set_option maxHeartbeats 4000000
set_option maxRecDepth 100000
namespace Go.Proofs.YtijliddchoehhaaGreatDoor
open Go.RowKit
set_option linter.unusedVariables false
def sliceD:Value→Option (DataW Unit×List MemPlace)
 | .slice none 0 0=>some (.nil,[])
 | .slice (some ⟨g,0,none⟩) n c=>some (.agg [.lit (.int .i64 g),.lit (.int .i64 n),.lit (.int .i64 c)],[])
 |_=>none
theorem sliceD_cases{v:Value}{d:DataW Unit}{ps:List MemPlace}(h:sliceD v=some (d,ps)):(v=.slice none 0 0∧d=.nil)∨ ∃g n c:Nat,v=.slice (some ⟨g,0,none⟩) n c∧d=.agg [.lit (.int .i64 g),.lit (.int .i64 n),.lit (.int .i64 c)]:=by
 unfold sliceD at h
 split at h
 ·simp at h;exact .inl ⟨rfl,h.1.symm⟩
 ·rename_i g n c
  simp at h
  exact .inr ⟨g,n,c,rfl,h.1.symm⟩
 cases h
theorem sliceD_inj{v v':Value}{d:DataW Unit}{ps ps':List MemPlace}(h:sliceD v=some (d,ps))(h':sliceD v'=some (d,ps')):v=v':=by
 rcases sliceD_cases h with ⟨rfl,rfl⟩|⟨g,n,c,rfl,rfl⟩
 ·rcases sliceD_cases h' with ⟨rfl,_⟩|⟨_,_,_,_,h2⟩
  ·rfl
  cases h2
 rcases sliceD_cases h' with ⟨_,h2⟩|⟨g',n',c',rfl,h2⟩
 ·cases h2
 simp at h2
 obtain ⟨h1,h2,h3⟩:=h2
 have e1:g=g':=by omega
 have e2:n=n':=by omega
 have e3:c=c':=by omega
 rw[e1,e2,e3]
def GR(w0 w:World)(base:Nat)(v:Value)(l:List RV):Prop:=
 ∃vs,w.ownsRow base 37 2 v l.length vs∧ ∀i,i<l.length→ ∃p,vs[i*2]? =some p∧StrRow w0 p (l.getD i rv0).ps∧vs[i*2+1]? =some (.bool (l.getD i rv0).ex)
theorem GR.nil(w0 w:World)(base:Nat):GR w0 w base (.slice none 0 0) []:=⟨[],World.ownsRow_nil _ _ _ _,fun i hi=>absurd hi (Nat.not_lt_zero _)⟩
theorem GR.kept{w0 w w':World}{base:Nat}{v:Value}{l:List RV}{row:Option Nat}(h:GR w0 w base v l)(hg:w.grownBy w' row)(hne:v.ownBlock=none∨v.ownBlock≠row):GR w0 w' base v l:=by
 obtain ⟨vs,h1,h2⟩:=h
 exact ⟨vs,h1.kept hg hne,h2⟩
theorem GR.below{w0 w w':World}{base:Nat}{v:Value}{l:List RV}(h:GR w0 w base v l)(hb:Below w.heap.size w w'):GR w0 w' base v l:=by
 obtain ⟨vs,h1,h2⟩:=h
 exact ⟨vs,own_below h1 hb,h2⟩
theorem GR.lt{w0 w:World}{base:Nat}{v:Value}{l:List RV}(h:GR w0 w base v l): ∀b,v.ownBlock=some b→base≤b∧b<w.heap.size:=by
 obtain ⟨vs,h1,_⟩:=h
 exact fun b hb=>h1.lt b hb
theorem GR.row{w0 w:World}{base:Nat}{v:Value}{l:List RV}(h:GR w0 w base v l)(hb:Below w0.heap.size w0 w):RuleRow w v l:=by
 obtain ⟨vs,h1,h2⟩:=h
 refine RuleRow.of_own h1 fun i hi=> ?_
 obtain ⟨p,a1,a2,a3⟩:=h2 i hi
 exact ⟨p,a1,a2.below hb,a3⟩
theorem GR.shape{w0 w:World}{base:Nat}{v:Value}{l:List RV}(h:GR w0 w base v l):(v=.slice none 0 0∧l=[])∨ ∃g c,v=.slice (some ⟨g,0,none⟩) l.length c:=by
 obtain ⟨vs,h1,_⟩:=h
 rcases h1.2 with ⟨rfl,h0⟩|⟨g,cap,cur,rfl,_⟩
 ·exact .inl ⟨rfl,List.eq_nil_of_length_eq_zero h0⟩
 exact .inr ⟨g,cap,rfl⟩
theorem GR.reads{w0 w:World}{base:Nat}{v:Value}{l:List RV}(h:GR w0 w base v l): ∃d,sliceD v=some (d,[]):=by
 rcases h.shape with ⟨rfl,_⟩|⟨g,c,rfl⟩
 ·exact ⟨_,rfl⟩
 exact ⟨_,rfl⟩
theorem rget_lt{l:List RV}{r:RV}{i:Nat}(h:i<l.length):(l++[r]).getD i rv0=l.getD i rv0:=by
 rw[List.getD_eq_getElem?_getD,List.getD_eq_getElem?_getD,List.getElem?_append_left h]
theorem rget_eq{l:List RV}{r:RV}:(l++[r]).getD l.length rv0=r:=by
 rw[List.getD_eq_getElem?_getD,List.getElem?_append_right (Nat.le_refl _)];simp
theorem GR.snoc{w0 w1:World}{base:Nat}{v' p:Value}{l:List RV}{r:RV}{vs:List Value}(hl:vs.length=l.length*2)
  (h2: ∀i,i<l.length→ ∃p,vs[i*2]? =some p∧StrRow w0 p (l.getD i rv0).ps∧vs[i*2+1]? =some (.bool (l.getD i rv0).ex))
  (ho:w1.ownsRow base 37 2 v' (l.length+1) (vs++[p,.bool r.ex])) (hp:StrRow w0 p r.ps):GR w0 w1 base v' (l++[r]):=by
 refine ⟨vs++[p,.bool r.ex],by rw[List.length_append];exact ho,fun i hi=> ?_⟩
 rw[List.length_append]at hi
 simp at hi
 by_cases hia:i<l.length
 ·obtain ⟨q,a1,a2,a3⟩:=h2 i hia
  rw[rget_lt hia]
  exact ⟨q,by rw[List.getElem?_append_left (by omega)];exact a1,a2,by rw[List.getElem?_append_left (by omega)];exact a3⟩
 obtain rfl:i=l.length:=by omega
 rw[rget_eq]
 refine ⟨p,?_,hp,?_⟩
 ·rw[List.getElem?_append_right (by omega),hl,Nat.sub_self];rfl
 rw[List.getElem?_append_right (by omega),hl,show l.length*2+1-l.length*2=1 by omega];rfl
def apartV(p q:Value):Prop:= ∀b,p.ownBlock=some b→q.ownBlock≠some b
def RMap(w0 w:World)(base b n:Nat)(S:ByteArray→Value)(f:ByteArray→List RV):Prop:=
 ∃D:DataW Unit,w.ownsMap Tryz.prog 9 sliceD b n D∧Maps.IsMap D∧b<base∧(∀s:ByteArray,s.size≤maxLen→ ∃ps,sliceD (S s)=some (D.atKey (.string s.data.toList) .nil,ps))∧(∀s,GR w0 w base (S s) (f s))∧ ∀s t,s≠t→apartV (S s) (S t)
theorem RMap.made(w0 w:World):RMap w0 (w.alloc (.map #[] 0)) (w.heap.size+1) w.heap.size 0 (fun _=> .slice none 0 0) (fun _=>[]):=
 ⟨.map [],World.ownsMap_made _ _ _ _,Maps.isMap_empty,by omega,fun s _=>⟨[],rfl⟩,fun s=>GR.nil _ _ _,fun s t _ b hb=>by cases hb⟩
theorem RMap.below{w0 w w':World}{base b n:Nat}{S:ByteArray→Value}{f:ByteArray→List RV}(h:RMap w0 w base b n S f)(hb:Below w.heap.size w w'):RMap w0 w' base b n S f:=by
 obtain ⟨D,h1,h2,h3,h4,h5,h6⟩:=h
 have hg:w.grownBy w' none:=⟨hb.os,hb.tape,hb.output,hb.size,fun k hk _=>hb.block k hk⟩
 exact ⟨D,h1.kept hg (by simp),h2,h3,h4,fun s=>(h5 s).below hb,h6⟩
theorem RMap.look{w0 w:World}{base b n:Nat}{S:ByteArray→Value}{f:ByteArray→List RV}(h:RMap w0 w base b n S f)(s:ByteArray)(hs:s.size≤maxLen):
  (Instr.lookup 97 (.map (some b)) (.string s) false).run Tryz.prog w=.ok (S s) w:=by
 obtain ⟨D,h1,h2,h3,h4,h5,h6⟩:=h
 obtain ⟨v,ps,hr,hv⟩:=h1.lookup (Maps.string_keyed Tryz.underlying9) Tryz.underlying97 (z:=.slice none 0 0) (by kernel_rfl) (zd:=.nil) (zp:=[]) rfl (WideMaps.keyOf_string_mk Tryz.underlying9 hs)
 obtain ⟨qs,hq⟩:=h4 s hs
 rw[hr,sliceD_inj hv hq]
theorem RMap.own{w0 w:World}{base b n:Nat}{S:ByteArray→Value}{f:ByteArray→List RV}(h:RMap w0 w base b n S f)(s:ByteArray):GR w0 w base (S s) (f s):=by
 obtain ⟨D,h1,h2,h3,h4,h5,h6⟩:=h
 exact h5 s
theorem lit_inj{s t:ByteArray}(h:Lit.string s.data.toList=.string t.data.toList):s=t:=by
 injection h with h
 exact ba_eq.2 h
theorem RMap.put{w0 w w1 w2:World}{base b n:Nat}{S:ByteArray→Value}{f:ByteArray→List RV}{D:DataW Unit}{s0:ByteArray}{v':Value}{r:RV}
  (hI:Maps.IsMap D) (hbb:b<base) (hA: ∀s:ByteArray,s.size≤maxLen→ ∃ps,sliceD (S s)=some (D.atKey (.string s.data.toList) .nil,ps)) (hG: ∀s,GR w0 w base (S s) (f s)) (hP: ∀s t,s≠t→apartV (S s) (S t))
  (g1:w.grownBy w1 (S s0).ownBlock) (o1:GR w0 w1 base v' (f s0++[r])) (hat:v'.ownBlock=(S s0).ownBlock∨v'.ownBlock=some (w.heap.size+1))
  {d:DataW Unit} (hd:sliceD v'=some (d,[])) (hm:w2.ownsMap Tryz.prog 9 sliceD b (n+1) (D.put (.string s0.data.toList) d)) (g2:w1.grownBy w2 (some b)):
  RMap w0 w2 base b (n+1) (fun s=>if s=s0 then v' else S s) (fun s=>if s=s0 then f s0++[r]else f s):=by
 have new: ∀s,s≠s0→apartV (S s) v':=fun s hs b' hb'=>by
  rcases hat with h|h
  ·rw[h];exact hP s s0 hs b' hb'
  rw[h];intro e;cases e;have:=((hG s).lt _ hb').2;omega
 have wen: ∀s,s≠s0→apartV v' (S s):=fun s hs b' hb' e=>new s hs b' e hb'
 have off: ∀v l,GR w0 w1 base v l→v.ownBlock=none∨v.ownBlock≠some b:=fun v l h=>by
  cases hv:v.ownBlock with
  |none=>exact .inl rfl
  |some c=>exact .inr fun e=>by cases e;have:=(h.lt _ hv).1;omega
 refine ⟨D.put (.string s0.data.toList) d,hm,?_,hbb,fun s hs=> ?_,fun s=> ?_,fun s t hst=> ?_⟩
 ·obtain ⟨es,rfl⟩:=hI
  exact ⟨_,rfl⟩
 ·by_cases h:s=s0
  ·subst h
   simp only[if_true]
   exact ⟨[],by rw[hd,Maps.atKey_put_same (k:=.string s.data.toList) hI trivial]⟩
  simp only[h,if_false]
  obtain ⟨ps,hq⟩:=hA s hs
  exact ⟨ps,by rw[hq,Maps.atKey_put_other (fun e=>h (lit_inj e))]⟩
 ·by_cases h:s=s0
  ·subst h
   simp only[if_true]
   exact o1.kept g2 (off _ _ o1)
  simp only[h,if_false]
  have k1:GR w0 w1 base (S s) (f s):=(hG s).kept g1 (by
   cases hv:(S s).ownBlock with
   |none=>exact .inl rfl
   |some c=>exact .inr fun e=>hP s s0 h c hv e.symm)
  exact k1.kept g2 (off _ _ k1)
 by_cases h:s=s0
 ·subst h
  have ht:t≠s:=fun e=>hst e.symm
  simp only[if_true,ht,if_false]
  exact wen t ht
 by_cases ht:t=s0
 ·subst ht
  simp only[if_true,h,if_false]
  exact new s h
 simp only[h,ht,if_false]
 exact hP s t hst
end Go.Proofs.YtijliddchoehhaaGreatDoor
namespace Go.Proofs.YtijliddchoehhaaGreatDoor
open Go.RowKit
theorem wpList_append_rule{P:Program}(wr:World){ops:Array Oper}{rest:List Oper}{o:Oper}{a:Act}{Q:Exit→Act→World→Prop}
  (hg:o.guard=none) (s x:Operand) (t:TypeId) (hop:o.op=.call {callee:=.builtin .append,args:= #[s,x],argTypes:= #[t,t]})
  (B:Nat) (e:TypeId) (z:Value) (bytes:Nat) (ht:P.underlying t=some (.slice e)) (hinfo:(P.info? e).map (fun i=>(i.zero,i.size,i.bytes))=some (some z,2,bytes)) (hz:z.cells.size=2)
  (v:Value) (n:Nat) (xs:List Value) (hs:a.eval s=v) (hown:wr.ownsRow B e 2 v n xs)
  (p q:Value) (hx:a.eval x=.slice (some ⟨wr.heap.size,0,none⟩) 1 1) (h1:p.oneCell'=true) (h2:q.oneCell'=true)
  (hroom:(n+1)*bytes≤140737488355328) (hroom':n+1≤maxLen) (hB:B≤wr.heap.size)
  (hK: ∀v' w1,w1.ownsRow B e 2 v' (n+1) (xs++[p,q])→wr.grownBy w1 v.ownBlock→(v'.ownBlock=v.ownBlock∨v'.ownBlock=some (wr.heap.size+1))→wpList P ops Q rest (a.put o.dst v') w1):
  wpList P ops Q (o::rest) a (wr.alloc (.cells #[p,q] e)):=by
 obtain ⟨i0,hi,hz0,hz1,hz2⟩:=info_parts hinfo
 refine wpList_append_own_at (wr.alloc (.cells #[p,q] e)) hg s x t hop B e i0 z 2 bytes ht hi hz0 hz1 hz2 hz (by decide) v n xs hs (hown.alloc _) ⟨wr.heap.size,0,none⟩ 1 1 [p,q] hx (by simp) ?_ ?_ hroom' hroom (by simp;omega) ?_
 ·intro j u hj
  rw[Addr.add_lit,Nat.zero_add]
  rw[World.cell?_alloc_at _ _ _ _ rfl]
  simpa using hj
 ·intro u hu
  simp at hu
  rcases hu with rfl|rfl
  ·exact h1
  exact h2
 intro v' w1 h1 h2 _ h4
 refine hK v' w1 h1 ⟨h2.os,h2.tape,h2.output,?_,fun k hk hne=>(h2.block k (by simp;omega) hne).trans (Below.heap_alloc wr _ k hk)⟩ (by simpa using h4)
 have:=h2.size
 simp at this
 omega
theorem hidden{p:Prop}(h:p):Hid p:=h
theorem specLabelOk(s:ByteArray)(w:World)(hs:s.size≤maxLen):
  Calls Tryz.prog 96 #[.string s] w fun e w'=>e=.returned (.bool (labL s.data.toList))∧w=w':=by
 unfold maxLen at hs
 have HV:Hid (∀b:Bool,labL s.data.toList=b→(.returned (.bool b):Ending)=.returned (.bool (labL s.data.toList))):=fun b h=>by rw[h]
 by_cases hr:1≤s.size∧s.size≤63
 ·have hr1:1≤(s.size:Int):=by omega
  have hr2:(s.size:Int)≤63:=by omega
  by_cases h0:(s[0]'(by omega)).toNat=45
  ·have HF:Hid (labL s.data.toList=false):=lab_head s (by omega) h0
   go_enter Tryz.func96,Tryz.ntmps96
   go_wp2_with fail
   refine (labIn_yes _ _ _ _ hr1 hr2).mono ?_
   rintro e w' ⟨rfl,rfl⟩
   go_wp2_with fail
   go_ret
   exact ⟨HV.out _ HF.out,rfl⟩
  by_cases h1:(s[s.size-1]'(by omega)).toNat=45
  ·have HF:Hid (labL s.data.toList=false):=lab_last s (by omega) h1
   go_enter Tryz.func96,Tryz.ntmps96
   go_wp2_with fail
   refine (labIn_yes _ _ _ _ hr1 hr2).mono ?_
   rintro e w' ⟨rfl,rfl⟩
   go_wp2_with fail
   go_ret
   exact ⟨HV.out _ HF.out,rfl⟩
  have q0:(((s[0]'(by omega)).toNat:Int)==45)=false:=beq_eq_false_iff_ne.2 (by omega)
  have q1:(((s[s.size-1]'(by omega)).toNat:Int)==45)=false:=beq_eq_false_iff_ne.2 (by omega)
  have HY:Hid ((∀c∈s.data.toList.take s.size,labB c=true)→labL s.data.toList=true):=lab_yes s hr h0 h1
  clear h0 h1
  go_enter Tryz.func96,Tryz.ntmps96
  go_wp2_with fail
  refine (labIn_yes _ _ _ _ hr1 hr2).mono ?_
  rintro e w' ⟨rfl,rfl⟩
  go_wp2_with fail
  go_loop[4] (fun i=> ∃k:Nat,k≤s.size∧i=.int .i64 k∧ ∀c∈s.data.toList.take k,labB c=true) (fun i=>s.size-(intOf i).toNat)
  case atStart=>exact ⟨0,Nat.zero_le _,rfl,fun c h=>by simp at h⟩
  obtain ⟨k,hk,rfl,hall⟩:=hrel
  have HA:Hid (∀c∈s.data.toList.take k,labB c=true):=hall
  clear hall
  by_cases hlt:k<s.size
  ·obtain ⟨d,hd⟩: ∃d:Nat,s[k].toNat=d:=⟨_,rfl⟩
   have hd1:(d:Int)≤255:=by have:=s[k].toNat_lt;omega
   have HS:Hid ((97≤d∧d≤122)∨(48≤d∧d≤57)∨d=45→ ∀c∈s.data.toList.take (k+1),labB c=true):=fun hc=>lab_take s k hlt d hd hc HA.out
   have HN:Hid (¬((97≤d∧d≤122)∨(48≤d∧d≤57)∨d=45)→labL s.data.toList=false):=fun hc=>lab_byte s k hlt (by rw[hd];exact hc)
   by_cases ha:97≤d∧d≤122
   ·go_wp2_with fail
    refine (labIn_yes _ _ _ _ (by omega) (by omega)).mono ?_
    rintro e w' ⟨rfl,rfl⟩
    go_wp2_with fail
    go_round
    case rel=>exact ⟨k+1,by omega,by go_num,HS.out (by omega)⟩
    case measure=>simp[intOf];omega
   by_cases hn:48≤d∧d≤57
   ·go_wp2_with fail
    refine (labIn_no _ _ _ _ (by omega)).mono ?_
    rintro e w' ⟨rfl,rfl⟩
    go_wp2_with fail
    refine (labIn_yes _ _ _ _ (by omega) (by omega)).mono ?_
    rintro e w' ⟨rfl,rfl⟩
    go_wp2_with fail
    go_round
    case rel=>exact ⟨k+1,by omega,by go_num,HS.out (by omega)⟩
    case measure=>simp[intOf];omega
   by_cases hm:d=45
   ·subst hm
    clear hn ha
    go_wp2_with fail
    refine (labIn_no _ _ _ _ (by omega)).mono ?_
    rintro e w' ⟨rfl,rfl⟩
    go_wp2_with fail
    refine (labIn_no _ _ _ _ (by omega)).mono ?_
    rintro e w' ⟨rfl,rfl⟩
    go_wp2_with fail
    go_round
    case rel=>exact ⟨k+1,by omega,by go_num,HS.out (.inr (.inr trivial))⟩
    case measure=>simp[intOf];omega
   have hm': ¬(d:Int)=45:=by omega
   go_wp2_with fail
   refine (labIn_no _ _ _ _ (by omega)).mono ?_
   rintro e w' ⟨rfl,rfl⟩
   go_wp2_with fail
   refine (labIn_no _ _ _ _ (by omega)).mono ?_
   rintro e w' ⟨rfl,rfl⟩
   go_wp2_with fail
   go_ret
   exact ⟨HV.out _ (HN.out (by omega)),rfl⟩
  have hks:k=s.size:=by omega
  subst hks
  go_wp2_with fail
  go_ret
  exact ⟨HV.out _ (HY.out HA.out),rfl⟩
 have HF:Hid (labL s.data.toList=false):=lab_size s hr
 have hr1:(s.size:Int)<1∨63<(s.size:Int):=by omega
 go_enter Tryz.func96,Tryz.ntmps96
 go_wp2_with fail
 refine (labIn_no _ _ _ _ hr1).mono ?_
 rintro e w' ⟨rfl,rfl⟩
 go_wp2_with fail
 go_ret
 exact ⟨HV.out _ HF.out,rfl⟩
theorem labIsDigit(d:Nat)(w:World)(hd:(d:Int)≤255):
  Calls Tryz.prog 142 #[.int .u8 d] w fun e w'=>e=.returned (.bool (decide (48≤(d:Int))&&decide ((d:Int)≤57)))∧w=w':=by
 by_cases h1:48≤(d:Int)
 ·go_enter Tryz.func142,Tryz.ntmps142
  go_wp2
  go_ret
  exact ⟨ret_bool (by simp;omega),rfl⟩
 go_enter Tryz.func142,Tryz.ntmps142
 go_wp2
 go_ret
 exact ⟨ret_bool (by simp;omega),rfl⟩
def labD(d:Nat):Bool:=decide ((97≤d∧d≤122)∨(48≤d∧d≤57)∨d=45)
theorem implIsLabelByte(d:Nat)(w:World)(hd:(d:Int)≤255):
  Calls Tryz.prog 122 #[.int .u8 d] w fun e w'=>e=.returned (.bool (labD d))∧w=w':=by
 have HV:Hid (∀b:Bool,labD d=b→(.returned (.bool b):Ending)=.returned (.bool (labD d))):=fun b h=>by rw[h]
 by_cases hm:(d:Int)=45
 ·go_enter Tryz.func122,Tryz.ntmps122
  go_wp2_with fail
  go_ret
  exact ⟨HV.out _ (decide_eq_true (by omega)),rfl⟩
 by_cases hn:48≤d∧d≤57
 ·have HC:Hid (CS 142 #[.int .u8 d] w (.bool true)):=by
   have:=labIsDigit d w hd
   rw[decide_eq_true (show 48≤(d:Int) by omega),decide_eq_true (show (d:Int)≤57 by omega)]at this
   exact this
  go_enter Tryz.func122,Tryz.ntmps122
  go_wp2_with fail
  refine HC.out.mono ?_
  rintro e w' ⟨rfl,rfl⟩
  go_wp2_with fail
  go_ret
  exact ⟨HV.out _ (decide_eq_true (by omega)),rfl⟩
 have HC:Hid (CS 142 #[.int .u8 d] w (.bool false)):=by
  have:=labIsDigit d w hd
  have e:(decide (48≤(d:Int))&&decide ((d:Int)≤57))=false:=by simp;omega
  rw[e]at this
  exact this
 by_cases h1:97≤(d:Int)
 ·by_cases h2:(d:Int)≤122
  ·go_enter Tryz.func122,Tryz.ntmps122
   go_wp2_with fail
   refine HC.out.mono ?_
   rintro e w' ⟨rfl,rfl⟩
   go_wp2_with fail
   go_ret
   exact ⟨HV.out _ (decide_eq_true (by omega)),rfl⟩
  go_enter Tryz.func122,Tryz.ntmps122
  go_wp2_with fail
  refine HC.out.mono ?_
  rintro e w' ⟨rfl,rfl⟩
  go_wp2_with fail
  go_ret
  exact ⟨HV.out _ (by unfold labD;rw[Bool.eq_iff_iff];simp;omega),rfl⟩
 go_enter Tryz.func122,Tryz.ntmps122
 go_wp2_with fail
 refine HC.out.mono ?_
 rintro e w' ⟨rfl,rfl⟩
 go_wp2_with fail
 go_ret
 exact ⟨HV.out _ (by unfold labD;rw[Bool.eq_iff_iff];simp;omega),rfl⟩
theorem lab_empty_no{u:ByteArray}(h:0<u.size):u.toList.isEmpty=false:=by
 cases he:u.toList.isEmpty with
 |false=>rfl
 |true=>
  rw[ByteArray.toList_eq,List.isEmpty_iff_length_eq_zero]at he
  have:u.size=0:=by simpa using he
  omega
theorem implLabelOk(s:ByteArray)(w:World)(hs:s.size≤maxLen):
  Calls Tryz.prog 107 #[.string s] w fun e w'=>e=.returned (.bool (labL s.data.toList))∧w=w':=by
 unfold maxLen at hs
 have HV:Hid (∀b:Bool,labL s.data.toList=b→(.returned (.bool b):Ending)=.returned (.bool (labL s.data.toList))):=fun b h=>by rw[h]
 by_cases hz:s=⟨#[]⟩
 ·have HF:Hid (labL s.data.toList=false):=by subst hz;show _=_;rfl
  subst hz
  go_enter Tryz.func107,Tryz.ntmps107
  go_wp2_with fail
  go_ret
  exact ⟨HV.out _ HF.out,rfl⟩
 have hr1:0<s.size:=by
  apply Nat.pos_of_ne_zero
  intro h
  exact hz (ByteArray.ext (Array.eq_empty_of_size_eq_zero h))
 have hem:=lab_empty_no hr1
 by_cases hr2:(s.size:Int)≤63
 ·have hr3: ¬63<(s.size:Int):=by omega
  by_cases h0:(s[0]'(by omega)).toNat=45
  ·have HF:Hid (labL s.data.toList=false):=lab_head s (by omega) h0
   go_enter Tryz.func107,Tryz.ntmps107
   go_wp2_with fail
   go_ret
   exact ⟨HV.out _ HF.out,rfl⟩
  by_cases h1:(s[s.size-1]'(by omega)).toNat=45
  ·have HF:Hid (labL s.data.toList=false):=lab_last s (by omega) h1
   go_enter Tryz.func107,Tryz.ntmps107
   go_wp2_with fail
   go_ret
   exact ⟨HV.out _ HF.out,rfl⟩
  have q0:(((s[0]'(by omega)).toNat:Int)==45)=false:=beq_eq_false_iff_ne.2 (by omega)
  have q1:(((s[s.size-1]'(by omega)).toNat:Int)==45)=false:=beq_eq_false_iff_ne.2 (by omega)
  have HY:Hid ((∀c∈s.data.toList.take s.size,labB c=true)→labL s.data.toList=true):=lab_yes s (by omega) h0 h1
  clear h0 h1
  go_enter Tryz.func107,Tryz.ntmps107
  go_wp2_with fail
  go_loop[26] (fun i=> ∃k:Nat,k≤s.size∧i=.int .i64 k∧ ∀c∈s.data.toList.take k,labB c=true) (fun i=>s.size-(intOf i).toNat)
  case atStart=>exact ⟨0,Nat.zero_le _,rfl,fun c h=>by simp at h⟩
  obtain ⟨k,hk,rfl,hall⟩:=hrel
  have HA:Hid (∀c∈s.data.toList.take k,labB c=true):=hall
  clear hall
  by_cases hlt:k<s.size
  ·obtain ⟨d,hd⟩: ∃d:Nat,s[k].toNat=d:=⟨_,rfl⟩
   have hd1:(d:Int)≤255:=by have:=s[k].toNat_lt;omega
   have HS:Hid ((97≤d∧d≤122)∨(48≤d∧d≤57)∨d=45→ ∀c∈s.data.toList.take (k+1),labB c=true):=fun hc=>lab_take s k hlt d hd hc HA.out
   have HN:Hid (¬((97≤d∧d≤122)∨(48≤d∧d≤57)∨d=45)→labL s.data.toList=false):=fun hc=>lab_byte s k hlt (by rw[hd];exact hc)
   have HC:Hid (∀W,CS 122 #[.int .u8 d] W (.bool (labD d))):=fun W=>implIsLabelByte d W hd1
   cases hb:labD d with
   |true=>
    have HB:Hid ((97≤d∧d≤122)∨(48≤d∧d≤57)∨d=45):=by
     have:=of_decide_eq_true (p:=(97≤d∧d≤122)∨(48≤d∧d≤57)∨d=45) hb
     exact this
    rw[hb]at HC
    clear hb
    go_wp2_with fail
    refine (HC.out _).mono ?_
    rintro e w' ⟨rfl,rfl⟩
    go_wp2_with fail
    go_round
    case rel=>exact ⟨k+1,by omega,by go_num,HS.out HB.out⟩
    case measure=>simp[intOf];omega
   |false=>
    have HB:Hid (¬((97≤d∧d≤122)∨(48≤d∧d≤57)∨d=45)):=by
     have:=of_decide_eq_false (p:=(97≤d∧d≤122)∨(48≤d∧d≤57)∨d=45) hb
     exact this
    rw[hb]at HC
    clear hb
    go_wp2_with fail
    refine (HC.out _).mono ?_
    rintro e w' ⟨rfl,rfl⟩
    go_wp2_with fail
    go_ret
    exact ⟨HV.out _ (HN.out HB.out),rfl⟩
  have hks:k=s.size:=by omega
  subst hks
  go_wp2_with fail
  go_ret
  exact ⟨HV.out _ (HY.out HA.out),rfl⟩
 have HF:Hid (labL s.data.toList=false):=lab_size s (by omega)
 go_enter Tryz.func107,Tryz.ntmps107
 go_wp2_with fail
 go_ret
 exact ⟨HV.out _ HF.out,rfl⟩
end Go.Proofs.YtijliddchoehhaaGreatDoor
namespace Go.Proofs.YtijliddchoehhaaGreatDoor
open Go.RowKit
set_option linter.unusedVariables false
theorem take_same{la lb:List ByteArray}{k:Nat}(ha:k<la.length)(hb:k<lb.length)(h:la.take k=lb.take k)(e:la.getD k ByteArray.empty=lb.getD k ByteArray.empty):la.take (k+1)=lb.take (k+1):=by
 rw[btake_snoc la k ha,btake_snoc lb k hb,h,e]
theorem take_whole{la lb:List ByteArray}(hl:la.length=lb.length)(h:la.take la.length=lb.take la.length):la=lb:=by
 rwa[List.take_length,hl,List.take_length]at h
theorem specSameParts(la lb:List ByteArray)(va vb:Value)(w:World)(hla:la.length≤1099511627776)(hlb:lb.length≤1099511627776)(ha:StrRow w va la)(hb:StrRow w vb lb):
  Calls Tryz.prog 71 #[va,vb] w fun e w'=>e=.returned (.bool (decide (la=lb)))∧ ∃m,w'=w.drewN m:=by
 by_cases hl:la.length=lb.length
 ·rcases ha with ⟨rfl,ao,cap,rfl⟩|⟨h0,g,off,cap,rfl,hg,hc⟩
  ·obtain rfl:lb=[]:=List.eq_nil_of_length_eq_zero (by simpa using hl.symm)
   obtain ⟨bo,cap',rfl⟩:=hb.slice
   clear hb hl hla hlb
   go_enter Tryz.func71,Tryz.ntmps71
   go_wp2
   refine wp_loop_rounds 1 ?_
   rw[rounds_succ]
   go_wp2
   go_ret
   exact ⟨rfl,0,rfl⟩
  rcases hb with ⟨rfl,_⟩|⟨_,g',off',cap',rfl,hg',hc'⟩
  ·exact absurd hl (by show ¬la.length=0;omega)
  have HC:Hid (∀i,i<la.length→w.cell? ⟨g,off+i,none⟩=some (.string (la.getD i ByteArray.empty))):=hc
  have HC':Hid (∀i,i<lb.length→w.cell? ⟨g',off'+i,none⟩=some (.string (lb.getD i ByteArray.empty))):=hc'
  have HL:Hid (la.length=lb.length):=hl
  rw[←hl]
  clear hc hc' hl hlb
  go_enter Tryz.func71,Tryz.ntmps71
  go_wp2
  go_loopw[5] (fun i wr=> ∃k:Nat,k≤la.length∧i=.int .i64 k∧Hid (la.take k=lb.take k)∧ ∃m,wr=w.drewN m) (fun i _=>la.length-(intOf i).toNat)
  case atStart=>exact ⟨0,Nat.zero_le _,rfl,rfl,0,rfl⟩
  obtain ⟨k,hk,rfl,hs,m,rfl⟩:=hrel
  by_cases hlt:k<la.length
  ·have ca:=HC.out k hlt
   have cb:=HC'.out k (by rw[←HL.out];exact hlt)
   by_cases he:la.getD k ByteArray.empty=lb.getD k ByteArray.empty
   ·have HS:Hid (la.take (k+1)=lb.take (k+1)):=take_same hlt (by rw[←HL.out];exact hlt) hs.out he
    rw[←he]at cb
    clear he hs
    generalize la.getD k ByteArray.empty=x at ca cb
    go_wp2
    go_quiet (fail)
    go_wp2
    go_roundw
    case rel=>exact ⟨k+1,by omega,by go_num,HS,m+nq,rfl⟩
    case measure=>simp[intOf];omega
   have hne:Hid (¬la=lb):=fun h=>he (by rw[h])
   have hst:=str_ne he
   clear he hs
   generalize la.getD k ByteArray.empty=x at ca hst
   generalize lb.getD k ByteArray.empty=y at cb hst
   go_wp2
   go_quiet (fail)
   go_wp2
   go_ret
   exact ⟨ret_bool (decide_eq_false hne.out).symm,m+nq,by rw[World.drewN_drewN]⟩
  have HE:Hid (la=lb):=take_whole HL.out (by
   have:=hs.out
   rwa[show k=la.length by omega]at this)
  clear hs
  go_wp2
  go_ret
  exact ⟨ret_bool (decide_eq_true HE.out).symm,m,rfl⟩
 have HN:Hid (¬la=lb):=fun h=>hl (by rw[h])
 obtain ⟨ao,cap,rfl⟩:=ha.slice
 obtain ⟨bo,cap',rfl⟩:=hb.slice
 have hli:((la.length:Int)==(lb.length:Int))=false:=beq_eq_false_iff_ne.2 (by omega)
 clear ha hb hl
 generalize la.length=n at*
 generalize lb.length=m at*
 go_enter Tryz.func71,Tryz.ntmps71
 go_wp2
 go_ret
 exact ⟨ret_bool (decide_eq_false HN.out).symm,0,rfl⟩
theorem lit_eq(x:ByteArray)(c:UInt8):(x.toList==[c])=decide (x.data.toList=[c]):=by
 rw[ByteArray.toList_eq]
 by_cases h:x.data.toList=[c]
 ·rw[h];simp
 rw[decide_eq_false h];exact beq_eq_false_iff_ne.2 h
theorem ruleB_of{ps:List ByteArray}{ex:Bool}(h1:1≤ps.length∧ps.length≤8)(h2:ex=true→2≤ps.length)(h3: ∀i,i<ps.length→partB ex ps.length i (ps.getD i ByteArray.empty)=true):ruleB ⟨ps,ex⟩=true:=by
 unfold ruleB
 simp only[Bool.and_eq_true,decide_eq_true_eq,Bool.or_eq_true,Bool.not_eq_true']
 refine ⟨⟨h1,?_⟩,all_range.2 h3⟩
 cases ex with
 |false=>exact .inl rfl
 |true=>exact .inr (h2 rfl)
theorem ruleB_part{ps:List ByteArray}{ex:Bool}{i:Nat}(hi:i<ps.length)(h:partB ex ps.length i (ps.getD i ByteArray.empty)=false):ruleB ⟨ps,ex⟩=false:=by
 cases hr:ruleB ⟨ps,ex⟩with
 |false=>rfl
 |true=>
  have:=(ruleB_yes hr).2.2 i hi
  rw[h]at this
  cases this
theorem beq_of_dec{a b:Int}{c:Bool}(h:decide (a=b)=c):(a==b)=c:=by
 rw[←h]
 by_cases e:a=b
 ·rw[e];simp
 rw[decide_eq_false e];exact beq_eq_false_iff_ne.2 e
theorem specRule(p:Value)(ps:List ByteArray)(ex:Bool)(w:World)(hl:ps.length≤1099511627776)(hsz: ∀x∈ps,x.size≤1048576)(h:StrRow w p ps):
  Calls Tryz.prog 70 #[.agg #[p,.bool ex]] w fun e w'=>e=.returned (.bool (ruleB ⟨ps,ex⟩))∧Below w.heap.size w w':=by
 have HSZ:Hid (∀x∈ps,x.size≤1048576):=hsz
 clear hsz
 by_cases h18:1≤(ps.length:Int)∧(ps.length:Int)≤8
 ·rcases h with ⟨rfl,_⟩|⟨h0,g,off,cap,rfl,hg,hc⟩
  ·simp at h18
  have HC:Hid (∀i,i<ps.length→w.cell? ⟨g,off+i,none⟩=some (.string (ps.getD i ByteArray.empty))):=hc
  have CI:Hid (∀W,CS 59 #[.int .i64 (ps.length:Int),.int .i64 1,.int .i64 8] W (.bool true)):=fun W=>by
   have:=specL1In ps.length 1 8 W
   rwa[decide_eq_true h18]at this
  clear hc
  obtain ⟨h1,h8⟩:=h18
  by_cases hx:ex=true∧ps.length<2
  ·obtain ⟨rfl,h2⟩:=hx
   have HR:Hid (ruleB ⟨ps,true⟩=false):=by
    show _=_
    cases hr:ruleB ⟨ps,true⟩with
    |false=>rfl
    |true=>
     have:=(ruleB_yes hr).2.1 rfl
     have:2≤ps.length:=this
     omega
   have h2i:(ps.length:Int)<2:=by omega
   go_enter Tryz.func70,Tryz.ntmps70
   go_wp2_with (go_at_call 59;refine (CI.out _).mono ?_;rintro e w' ⟨rfl,rfl⟩)
   go_ret
   exact ⟨ret_bool HR.out.symm,(Below.refl _ _).alloc (Nat.le_refl _) _⟩
  have HX:Hid (ex=true→2≤ps.length):=fun he=>by
   by_cases h2:2≤ps.length
   ·exact h2
   exact absurd ⟨he,by omega⟩ hx
  have hx2:(ex&&decide ((ps.length:Int)<2))=false:=by
   cases ex with
   |false=>rfl
   |true=>
    have:=HX.out rfl
    simp
    omega
  clear hx
  go_enter Tryz.func70,Tryz.ntmps70
  cases ex with
  |true=>
   have h2i: ¬(ps.length:Int)<2:=by have:=HX.out rfl;omega
   go_wp2_with (go_at_call 59;refine (CI.out _).mono ?_;rintro e w' ⟨rfl,rfl⟩)
   go_loop[4] (fun i=> ∃k:Nat,k≤ps.length∧i=.int .i64 k∧Hid (∀j,j<k→partB true ps.length j (ps.getD j ByteArray.empty)=true)) (fun i=>ps.length-(intOf i).toNat)
   case atStart=>exact ⟨0,Nat.zero_le _,rfl,fun j hj=>absurd hj (Nat.not_lt_zero _)⟩
   obtain ⟨k,hk,rfl,HP⟩:=hrel
   by_cases hlt:k<ps.length
   ·have ca:=HC.out k hlt
    have hmem:ps.getD k ByteArray.empty∈ps:=by
     rw[List.getD_eq_getElem?_getD,List.getElem?_eq_getElem hlt]
     exact List.getElem_mem _
    have hxs:=HSZ.out _ hmem
    have hb1:=lit_eq (ps.getD k ByteArray.empty) 42
    have HV:Hid (partB true ps.length k (ps.getD k ByteArray.empty)=(decide ((ps.getD k ByteArray.empty).data.toList=[42])&&decide (k+1=ps.length)&& !true||labL (ps.getD k ByteArray.empty).data.toList)):=rfl
    have CL:Hid (∀W,CS 96 #[.string (ps.getD k ByteArray.empty)] W (.bool (labL (ps.getD k ByteArray.empty).data.toList))):=fun W=>specLabelOk _ W (by unfold maxLen;omega)
    clear hmem
    generalize labL (ps.getD k ByteArray.empty).data.toList=L at HV CL
    generalize decide ((ps.getD k ByteArray.empty).data.toList=[42])=b1 at hb1 HV
    have HW:Hid (∀P:Bool,partB true ps.length k (ps.getD k ByteArray.empty)=P→partB true ps.length k (ps.getD k ByteArray.empty)=P):=fun _ h=>h
    generalize hgx:ps.getD k ByteArray.empty=x at ca hxs hb1 CL
    have HG:Hid (ps.getD k ByteArray.empty=x):=hgx
    clear hgx HW
    have hki:(k:Int)<ps.length:=by omega
    cases b1 with
    |false=>
     have HS:Hid ((false&&decide (k+1=ps.length)&& !true)=false):=rfl
     cases hL:L with
     |true=>
      have HP2:Hid (∀j,j<k+1→partB true ps.length j (ps.getD j ByteArray.empty)=true):=fun j hj=>by
       by_cases hjk:j<k
       ·exact HP.out j hjk
       rw[show j=k by omega]
       exact HV.out.trans (by rw[hL,Bool.or_true])
      rw[hL]at CL
      clear HV hL HP
      go_wp2_with (go_at_call 96;refine (CL.out _).mono ?_;rintro e w' ⟨rfl,rfl⟩)
      go_round
      case rel=>exact ⟨k+1,by omega,by go_num,HP2⟩
      case measure=>simp[intOf];omega
     |false=>
      have HR:Hid (ruleB ⟨ps,true⟩=false):=ruleB_part hlt (HV.out.trans (by rw[hL,Bool.or_false];exact HS.out))
      rw[hL]at CL
      clear HV hL HP
      go_wp2_with (go_at_call 96;refine (CL.out _).mono ?_;rintro e w' ⟨rfl,rfl⟩)
      go_ret
      exact ⟨ret_bool HR.out.symm,(Below.refl _ _).alloc (Nat.le_refl _) _⟩
    |true=>
     have HS:Hid ((true&&decide (k+1=ps.length)&& !true)=false):=by show _=_;simp
     cases hb2:decide ((k:Int)=(ps.length:Int)-1)with
     |true=>
      have hq:=beq_of_dec hb2
      clear hb2
      cases hL:L with
      |true=>
       have HP2:Hid (∀j,j<k+1→partB true ps.length j (ps.getD j ByteArray.empty)=true):=fun j hj=>by
        by_cases hjk:j<k
        ·exact HP.out j hjk
        rw[show j=k by omega]
        exact HV.out.trans (by rw[hL,Bool.or_true])
       rw[hL]at CL
       clear HV hL HP
       go_wp2_with (go_at_call 96;refine (CL.out _).mono ?_;rintro e w' ⟨rfl,rfl⟩)
       go_round
       case rel=>exact ⟨k+1,by omega,by go_num,HP2⟩
       case measure=>simp[intOf];omega
      |false=>
       have HR:Hid (ruleB ⟨ps,true⟩=false):=ruleB_part hlt (HV.out.trans (by rw[hL,Bool.or_false];exact HS.out))
       rw[hL]at CL
       clear HV hL HP
       go_wp2_with (go_at_call 96;refine (CL.out _).mono ?_;rintro e w' ⟨rfl,rfl⟩)
       go_ret
       exact ⟨ret_bool HR.out.symm,(Below.refl _ _).alloc (Nat.le_refl _) _⟩
     |false=>
      have hq:=beq_of_dec hb2
      clear hb2
      cases hL:L with
      |true=>
       have HP2:Hid (∀j,j<k+1→partB true ps.length j (ps.getD j ByteArray.empty)=true):=fun j hj=>by
        by_cases hjk:j<k
        ·exact HP.out j hjk
        rw[show j=k by omega]
        exact HV.out.trans (by rw[hL,Bool.or_true])
       rw[hL]at CL
       clear HV hL HP
       go_wp2_with (go_at_call 96;refine (CL.out _).mono ?_;rintro e w' ⟨rfl,rfl⟩)
       go_round
       case rel=>exact ⟨k+1,by omega,by go_num,HP2⟩
       case measure=>simp[intOf];omega
      |false=>
       have HR:Hid (ruleB ⟨ps,true⟩=false):=ruleB_part hlt (HV.out.trans (by rw[hL,Bool.or_false];exact HS.out))
       rw[hL]at CL
       clear HV hL HP
       go_wp2_with (go_at_call 96;refine (CL.out _).mono ?_;rintro e w' ⟨rfl,rfl⟩)
       go_ret
       exact ⟨ret_bool HR.out.symm,(Below.refl _ _).alloc (Nat.le_refl _) _⟩
   have hki: ¬(k:Int)<ps.length:=by omega
   have HR:Hid (ruleB ⟨ps,true⟩=true):=ruleB_of (by omega) (fun h=>HX.out (by first|trivial|cases h)) (fun i hi=>HP.out i (by omega))
   clear HP
   go_wp2_with fail
   go_ret
   exact ⟨ret_bool HR.out.symm,(Below.refl _ _).alloc (Nat.le_refl _) _⟩
  |false=>
   go_wp2_with (go_at_call 59;refine (CI.out _).mono ?_;rintro e w' ⟨rfl,rfl⟩)
   go_loop[4] (fun i=> ∃k:Nat,k≤ps.length∧i=.int .i64 k∧Hid (∀j,j<k→partB false ps.length j (ps.getD j ByteArray.empty)=true)) (fun i=>ps.length-(intOf i).toNat)
   case atStart=>exact ⟨0,Nat.zero_le _,rfl,fun j hj=>absurd hj (Nat.not_lt_zero _)⟩
   obtain ⟨k,hk,rfl,HP⟩:=hrel
   by_cases hlt:k<ps.length
   ·have ca:=HC.out k hlt
    have hmem:ps.getD k ByteArray.empty∈ps:=by
     rw[List.getD_eq_getElem?_getD,List.getElem?_eq_getElem hlt]
     exact List.getElem_mem _
    have hxs:=HSZ.out _ hmem
    have hb1:=lit_eq (ps.getD k ByteArray.empty) 42
    have HV:Hid (partB false ps.length k (ps.getD k ByteArray.empty)=(decide ((ps.getD k ByteArray.empty).data.toList=[42])&&decide (k+1=ps.length)&& !false||labL (ps.getD k ByteArray.empty).data.toList)):=rfl
    have CL:Hid (∀W,CS 96 #[.string (ps.getD k ByteArray.empty)] W (.bool (labL (ps.getD k ByteArray.empty).data.toList))):=fun W=>specLabelOk _ W (by unfold maxLen;omega)
    clear hmem
    generalize labL (ps.getD k ByteArray.empty).data.toList=L at HV CL
    generalize decide ((ps.getD k ByteArray.empty).data.toList=[42])=b1 at hb1 HV
    have HW:Hid (∀P:Bool,partB false ps.length k (ps.getD k ByteArray.empty)=P→partB false ps.length k (ps.getD k ByteArray.empty)=P):=fun _ h=>h
    generalize hgx:ps.getD k ByteArray.empty=x at ca hxs hb1 CL
    have HG:Hid (ps.getD k ByteArray.empty=x):=hgx
    clear hgx HW
    have hki:(k:Int)<ps.length:=by omega
    cases b1 with
    |false=>
     have HS:Hid ((false&&decide (k+1=ps.length)&& !false)=false):=rfl
     cases hL:L with
     |true=>
      have HP2:Hid (∀j,j<k+1→partB false ps.length j (ps.getD j ByteArray.empty)=true):=fun j hj=>by
       by_cases hjk:j<k
       ·exact HP.out j hjk
       rw[show j=k by omega]
       exact HV.out.trans (by rw[hL,Bool.or_true])
      rw[hL]at CL
      clear HV hL HP
      go_wp2_with (go_at_call 96;refine (CL.out _).mono ?_;rintro e w' ⟨rfl,rfl⟩)
      go_round
      case rel=>exact ⟨k+1,by omega,by go_num,HP2⟩
      case measure=>simp[intOf];omega
     |false=>
      have HR:Hid (ruleB ⟨ps,false⟩=false):=ruleB_part hlt (HV.out.trans (by rw[hL,Bool.or_false];exact HS.out))
      rw[hL]at CL
      clear HV hL HP
      go_wp2_with (go_at_call 96;refine (CL.out _).mono ?_;rintro e w' ⟨rfl,rfl⟩)
      go_ret
      exact ⟨ret_bool HR.out.symm,(Below.refl _ _).alloc (Nat.le_refl _) _⟩
    |true=>
     cases hb2:decide ((k:Int)=(ps.length:Int)-1)with
     |true=>
      have hq:=beq_of_dec hb2
      have h2:k+1=ps.length:=by have:=of_decide_eq_true hb2;omega
      have HP2:Hid (∀j,j<k+1→partB false ps.length j (ps.getD j ByteArray.empty)=true):=fun j hj=>by
       by_cases hjk:j<k
       ·exact HP.out j hjk
       rw[show j=k by omega]
       exact HV.out.trans (by rw[decide_eq_true h2];rfl)
      clear hb2 h2 HV HP
      go_wp2_with fail
      go_round
      case rel=>exact ⟨k+1,by omega,by go_num,HP2⟩
      case measure=>simp[intOf];omega
     |false=>
      have hq:=beq_of_dec hb2
      have HS:Hid ((true&&decide (k+1=ps.length)&& !false)=false):=by
       show _=_
       have:=of_decide_eq_false hb2
       rw[decide_eq_false (by omega)]
       rfl
      clear hb2
      cases hL:L with
      |true=>
       have HP2:Hid (∀j,j<k+1→partB false ps.length j (ps.getD j ByteArray.empty)=true):=fun j hj=>by
        by_cases hjk:j<k
        ·exact HP.out j hjk
        rw[show j=k by omega]
        exact HV.out.trans (by rw[hL,Bool.or_true])
       rw[hL]at CL
       clear HV hL HP
       go_wp2_with (go_at_call 96;refine (CL.out _).mono ?_;rintro e w' ⟨rfl,rfl⟩)
       go_round
       case rel=>exact ⟨k+1,by omega,by go_num,HP2⟩
       case measure=>simp[intOf];omega
      |false=>
       have HR:Hid (ruleB ⟨ps,false⟩=false):=ruleB_part hlt (HV.out.trans (by rw[hL,Bool.or_false];exact HS.out))
       rw[hL]at CL
       clear HV hL HP
       go_wp2_with (go_at_call 96;refine (CL.out _).mono ?_;rintro e w' ⟨rfl,rfl⟩)
       go_ret
       exact ⟨ret_bool HR.out.symm,(Below.refl _ _).alloc (Nat.le_refl _) _⟩
   have hki: ¬(k:Int)<ps.length:=by omega
   have HR:Hid (ruleB ⟨ps,false⟩=true):=ruleB_of (by omega) (fun h=>HX.out (by first|trivial|cases h)) (fun i hi=>HP.out i (by omega))
   clear HP
   go_wp2_with fail
   go_ret
   exact ⟨ret_bool HR.out.symm,(Below.refl _ _).alloc (Nat.le_refl _) _⟩
 have HR:Hid (ruleB ⟨ps,ex⟩=false):=by
  show _=_
  unfold ruleB
  rw[decide_eq_false (show ¬(1≤ps.length∧ps.length≤8) by omega)]
  rfl
 have CI:Hid (∀W,CS 59 #[.int .i64 (ps.length:Int),.int .i64 1,.int .i64 8] W (.bool false)):=fun W=>by
  have:=specL1In ps.length 1 8 W
  rwa[decide_eq_false h18]at this
 obtain ⟨ao,cap,rfl⟩:=h.slice
 clear h h18
 go_enter Tryz.func70,Tryz.ntmps70
 go_wp2_with (go_at_call 59;refine (CI.out _).mono ?_;rintro e w' ⟨rfl,rfl⟩)
 go_ret
 exact ⟨ret_bool HR.out.symm,(Below.refl _ _).alloc (Nat.le_refl _) _⟩
end Go.Proofs.YtijliddchoehhaaGreatDoor
