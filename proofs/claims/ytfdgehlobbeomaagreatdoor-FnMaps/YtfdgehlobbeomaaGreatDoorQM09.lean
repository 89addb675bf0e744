/- MapRead, MapReadB. -/
import Derived.Test.YtfdgehlobbeomaaGreatDoorQM08
namespace Go.Proofs.YtfdgehlobbeomaaGreatDoor
open Go.RowKit
set_option linter.unusedVariables false
def depT(t:TV):Int:=if t.k=1 then 1 else if t.k=2 then-1 else 0
def endA:Int→List TV→Option Nat
 |_,[]=>none
 |d,t::r=>if d+depT t=0 then some 0 else (endA (d+depT t) r).map (· +1)
def cutE(f:Int)(l:List TV):Except Int (ByteArray×List TV×List TV):=
 match l with
 |[]=> .error f
 |t::r=>if t.k=1 then (match endA 0 (t::r)with
  |some p=> .ok (t.s,((t::r).take p).drop 1,(t::r).drop (p+1))
  |none=> .error 1)else .error f
def textsL(l:List TV):List UInt8:=l.flatMap fun t=>t.s.data.toList
def textE(l:List TV):Except Int ByteArray:=if l.all (fun t=>decide (t.k=3))then .ok ⟨(Lib.trimS (textsL l) blanks4).toArray⟩else .error 3
def prioR(s:List UInt8):Option Nat:=
 if (upB 46 s=[48]∨upB 46 s=[49])∧ ¬(s.contains 46=true∧behB 46 s=[])then
  (match numL 10 4 (upB 46 s++behB 46 s)with
  |some n=>if n*10^(3-(behB 46 s).length)≤1000 then some (n*10^(3-(behB 46 s).length))else none
  |none=>none)
 else none
def prioE(ps:List ByteArray):Except Int Int:=
 match ps with
 |[]=> .ok 500
 |p::_=>match prioR p.data.toList with
  |some n=> .ok n
  |none=> .error 3
def partsE:Nat→List TV→List ByteArray→List ByteArray→Except Int (List ByteArray×List ByteArray)
 |0,_,_,_=> .error 0
 |n+1,rest,ls,ps=>if rest=[]then .ok (ls,ps)else
  match cutE 3 rest with
  | .error c=> .error c
  | .ok (nm,wi,be)=>
   if nm=bytesV nLoc then (match textE wi with
    | .error c=> .error c
    | .ok t=>partsE n be (ls++[t]) ps)
   else if nm=bytesV nPrio then (match textE wi with
    | .error c=> .error c
    | .ok t=>partsE n be ls (ps++[t]))
   else partsE n be ls ps
def entryE(wi:List TV):Except Int EV:=
 match partsE (wi.length+1) wi [] []with
 | .error c=> .error c
 | .ok (ls,ps)=>if ls.length=1∧(ls.getD 0 ByteArray.empty).data.toList≠[]∧ps.length≤1 then (match prioE ps with
  | .error c=> .error c
  | .ok k=> .ok ⟨k,ls.getD 0 ByteArray.empty⟩)else .error 3
def entsE:Nat→ByteArray→List TV→List EV→Except Int (List EV)
 |0,_,_,_=> .error 0
 |n+1,nm,rest,l=>if rest=[]then (if l.length≤200 then .ok l else .error 4)else
  match cutE 3 rest with
  | .error c=> .error c
  | .ok (m,wi,be)=>if m=nm then (match entryE wi with
   | .error c=> .error c
   | .ok e=>entsE n nm be (l++[e]))else .error 3
def mapE(ts:List TV):Except Int (Bool×List EV):=
 match cutE 2 ts with
 | .error c=> .error c
 | .ok (nm,wi,be)=>
  if nm=bytesV (rootN (decide (nm=bytesV nIndex)))∧be=[]then
   (match entsE (wi.length+1) (bytesV (entN (decide (nm=bytesV nIndex)))) wi []with
   | .error c=> .error c
   | .ok l=> .ok (decide (nm=bytesV nIndex),l))
  else .error 2
def readM(s:List UInt8):Except Int (Bool×List EV):=
 if (toksI s).2=0∧balL (toksI s).1=true then mapE ((toksI s).1.filter fun t=> !blkT t)else .error 1
theorem prio_all:(List.range 1001).all (fun k=>prioR (prioT (k:Int))==some k)=true:=by kernel_rfl
theorem prio_back{z:Int}(h0:0≤z)(h1:z≤1000):prioR (prioT z)=some z.toNat:=by
 have h:=List.all_eq_true.1 prio_all z.toNat (List.mem_range.2 (by omega))
 rw[show ((z.toNat:Nat):Int)=z by omega]at h
 exact eq_of_beq h
def EntNice(e:EV):Prop:=EntOk e∧Lib.trimS e.s.data.toList blanks4=e.s.data.toList
theorem endA_next{d:Int}{t:TV}{r:List TV}(h:d+depT t≠0):endA d (t::r)=(endA (d+depT t) r).map (· +1):=by
 rw[endA,if_neg h]
theorem endA_here{d:Int}{t:TV}{r:List TV}(h:d+depT t=0):endA d (t::r)=some 0:=by
 rw[endA,if_pos h]
theorem dep1(s:ByteArray):depT ⟨1,s⟩=1:=rfl
theorem dep2(s:ByteArray):depT ⟨2,s⟩= -1:=rfl
theorem dep3(s:ByteArray):depT ⟨3,s⟩=0:=rfl
theorem endA_1{d:Int}{s:ByteArray}{r:List TV}(h:0≤d):endA d (⟨1,s⟩::r)=(endA (d+1) r).map (· +1):=endA_next (by rw[dep1];omega)
theorem endA_2{d:Int}{s:ByteArray}{r:List TV}(h:0<d):endA (d+1) (⟨2,s⟩::r)=(endA d r).map (· +1):=by
 rw[endA_next (by rw[dep2];omega),dep2,show d+1+ -1=d by omega]
theorem endA_3{d:Int}{s:ByteArray}{r:List TV}(h:0<d):endA d (⟨3,s⟩::r)=(endA d r).map (· +1):=by
 rw[endA_next (by rw[dep3];omega),dep3,show d+0=d by omega]
theorem endA_0{s:ByteArray}{r:List TV}:endA 1 (⟨2,s⟩::r)=some 0:=endA_here (by rw[dep2];rfl)
theorem map_map8(x:Option Nat)(m n:Nat):(x.map (· +m)).map (· +n)=x.map (· +(m+n)):=by
 cases x with
 |none=>rfl
 |some v=>show some (v+m+n)=some (v+(m+n));rw[Nat.add_assoc]
theorem endA_ent{d:Int}{b:Bool}{e:EV}{r:List TV}(h:0<d):endA d (entK b e++r)=(endA d r).map (· +8):=by
 unfold entK
 simp only[List.cons_append,List.nil_append]
 rw[endA_1 (by omega),endA_1 (by omega),endA_3 (by omega),endA_2 (by omega),endA_1 (by omega),endA_3 (by omega),endA_2 (by omega),endA_2 h]
 simp only[map_map8]
theorem endA_ents{b:Bool}{r:List TV}: ∀(l:List EV),endA 1 (entsK b l++r)=(endA 1 r).map (· +8*l.length)
 |[]=>by
  show endA 1 r=(endA 1 r).map (· +0)
  cases endA 1 r<;>rfl
 |e::l=>by
  have e1:entsK b (e::l)++r=entK b e++(entsK b l++r):=by unfold entsK;simp
  rw[e1,endA_ent (by decide),endA_ents l,map_map8]
  rw[List.length_cons,show 8*(l.length+1)=8*l.length+8 by omega]
theorem entsK_len(b:Bool)(l:List EV):(entsK b l).length=8*l.length:=by
 have:=mapK_len b l
 unfold mapK at this
 rw[List.length_cons,List.length_append]at this
 simp only[List.length_cons,List.length_nil]at this
 omega
theorem cutE_at{f:Int}{t:TV}{r:List TV}{p:Nat}(ht:t.k=1)(h:endA 0 (t::r)=some p):cutE f (t::r)=.ok (t.s,((t::r).take p).drop 1,(t::r).drop (p+1)):=by
 unfold cutE
 dsimp only
 rw[if_pos ht,h]
theorem cut_root(b:Bool)(l:List EV):cutE 2 (mapK b l)=.ok (bytesV (rootN b),entsK b l,[]):=by
 have h:endA 0 (mapK b l)=some (8*l.length+1):=by
  unfold mapK
  rw[endA_1 (by decide),show (0:Int)+1=1 from rfl,endA_ents,endA_0]
  show some (0+8*l.length+1)=_
  rw[Nat.zero_add]
 unfold mapK at h⊢
 rw[cutE_at rfl h,List.take_succ_cons,←entsK_len b l,List.take_left,List.drop_succ_cons,List.drop_zero]
 congr 3
 rw[List.drop_succ_cons,List.drop_eq_nil_of_le (by simp)]
def inK(e:EV):List TV:=[⟨1,bytesV nLoc⟩,⟨3,e.s⟩,⟨2,bytesV nLoc⟩,⟨1,bytesV nPrio⟩,⟨3,bytesV (prioT e.k)⟩,⟨2,bytesV nPrio⟩]
theorem cut_ent(b:Bool)(e:EV)(r:List TV):cutE 3 (entK b e++r)=.ok (bytesV (entN b),inK e,r):=by
 have h:endA 0 (entK b e++r)=some 7:=by
  unfold entK
  simp only[List.cons_append,List.nil_append]
  rw[endA_1 (by omega),endA_1 (by omega),endA_3 (by omega),endA_2 (by omega),endA_1 (by omega),endA_3 (by omega),endA_2 (by omega),show (0:Int)+1=1 from rfl,endA_0]
  rfl
 unfold entK at h⊢
 simp only[List.cons_append,List.nil_append]at h⊢
 rw[cutE_at rfl h]
 rfl
theorem cut_part(s t:ByteArray)(r:List TV):cutE 3 (⟨1,s⟩::⟨3,t⟩::⟨2,s⟩::r)=.ok (s,[⟨3,t⟩],r):=by
 have h:endA 0 (⟨1,s⟩::⟨3,t⟩::⟨2,s⟩::r)=some 2:=by
  rw[endA_1 (by omega),show (0:Int)+1=1 from rfl,endA_3 (by decide),endA_0]
  rfl
 rw[cutE_at rfl h]
 rfl
theorem trim_all:(List.range 1001).all (fun k=>Lib.trimS (prioT (k:Int)) blanks4==prioT (k:Int))=true:=by kernel_rfl
theorem trim_prio{z:Int}(h0:0≤z)(h1:z≤1000):Lib.trimS (prioT z) blanks4=prioT z:=by
 have h:=List.all_eq_true.1 trim_all z.toNat (List.mem_range.2 (by omega))
 rw[show ((z.toNat:Nat):Int)=z by omega]at h
 exact eq_of_beq h
theorem text_one{t:ByteArray}(h:Lib.trimS t.data.toList blanks4=t.data.toList):textE [⟨3,t⟩]=.ok t:=by
 unfold textE
 rw[if_pos (by rfl)]
 have:textsL [⟨3,t⟩]=t.data.toList:=by unfold textsL;simp
 rw[this,h]
theorem loc_prio: ¬(bytesV nPrio=bytesV nLoc):=by decide
theorem parts_ent{e:EV}(h:EntNice e):partsE 7 (inK e) [] []=.ok ([e.s],[bytesV (prioT e.k)]):=by
 obtain ⟨⟨h0,h1,h2⟩,h3⟩:=h
 unfold inK
 rw[partsE,if_neg (by simp),cut_part]
 dsimp only
 rw[if_pos rfl,text_one h3]
 dsimp only
 rw[partsE,if_neg (by simp),cut_part]
 dsimp only
 rw[if_neg loc_prio,if_pos rfl,text_one (trim_prio h0 h1)]
 dsimp only
 rw[partsE,if_pos rfl]
 rfl
theorem entry_ent{e:EV}(h:EntNice e):entryE (inK e)=.ok e:=by
 unfold entryE
 rw[show (inK e).length+1=7 from rfl,parts_ent h]
 dsimp only
 rw[if_pos ⟨rfl,h.1.2.2,by simp⟩]
 unfold prioE
 dsimp only
 have:(bytesV (prioT e.k)).data.toList=prioT e.k:=rfl
 rw[this,prio_back h.1.1 h.1.2.1]
 dsimp only
 have h0:=h.1.1
 congr 1
 show EV.mk _ _=e
 obtain ⟨k,s⟩:=e
 show EV.mk (k.toNat:Int) s=_
 rw[show ((k.toNat:Nat):Int)=k by have:0≤k:=h0;omega]
theorem ents_back{b:Bool}: ∀(l acc:List EV) (n:Nat),(∀e∈l,EntNice e)→l.length<n→acc.length+l.length≤200→entsE n (bytesV (entN b)) (entsK b l) acc=.ok (acc++l)
 |[],acc,n+1,_,_,h3=>by
  rw[entsE,show entsK b []=[] from rfl,if_pos rfl,if_pos (by simpa using h3),List.append_nil]
 |e::l,acc,n+1,h1,h2,h3=>by
  have e1:entsK b (e::l)=entK b e++entsK b l:=by unfold entsK;simp
  rw[entsE,e1,if_neg (by unfold entK;simp),cut_ent]
  dsimp only
  rw[if_pos rfl,entry_ent (h1 e List.mem_cons_self)]
  dsimp only
  rw[ents_back l (acc++[e]) n (fun x hx=>h1 x (List.mem_cons_of_mem _ hx)) (by simpa using h2) (by rw[List.length_append];simp only[List.length_cons,List.length_nil]at h3⊢;omega),List.append_assoc]
  rfl
theorem root_is(b:Bool):decide (bytesV (rootN b)=bytesV nIndex)=b:=by cases b<;>decide
theorem mapE_back{b:Bool}{l:List EV}(h: ∀e∈l,EntNice e)(hl:l.length≤200):mapE (mapK b l)=.ok (b,l):=by
 unfold mapE
 rw[cut_root]
 dsimp only
 rw[root_is,if_pos ⟨rfl,rfl⟩,ents_back (b:=b) l [] _ h (by rw[entsK_len];omega) (by simpa using hl)]
 rfl
theorem blk_open(s:ByteArray):blkT ⟨1,s⟩=false:=rfl
theorem blk_close(s:ByteArray):blkT ⟨2,s⟩=false:=rfl
theorem blk_text{s:ByteArray}(h:Lib.trimS s.data.toList blanks4≠[]):blkT ⟨3,s⟩=false:=by
 unfold blkT
 rw[decide_eq_false h,Bool.and_false]
theorem filter_ent{b:Bool}{e:EV}(h:EntNice e):(entK b e).filter (fun t=> !blkT t)=entK b e:=by
 have h1:blkT ⟨3,e.s⟩=false:=blk_text (by rw[h.2];exact h.1.2.2)
 have h2:blkT ⟨3,bytesV (prioT e.k)⟩=false:=blk_text (by
  rw[show (bytesV (prioT e.k)).data.toList=prioT e.k from rfl,trim_prio h.1.1 h.1.2.1,prioT_in h.1.1 h.1.2.1]
  simp)
 unfold entK
 simp only[List.filter_cons,blk_open,blk_close,h1,h2,Bool.not_false,if_true,List.filter_nil]
theorem filter_ents{b:Bool}: ∀(l:List EV),(∀e∈l,EntNice e)→(entsK b l).filter (fun t=> !blkT t)=entsK b l
 |[],_=>rfl
 |e::l,h=>by
  have e1:entsK b (e::l)=entK b e++entsK b l:=by unfold entsK;simp
  rw[e1,List.filter_append,filter_ent (h e List.mem_cons_self),filter_ents l (fun x hx=>h x (List.mem_cons_of_mem _ hx))]
theorem filter_map{b:Bool}{l:List EV}(h: ∀e∈l,EntNice e):(mapK b l).filter (fun t=> !blkT t)=mapK b l:=by
 unfold mapK
 rw[List.filter_cons,blk_open,List.filter_append,filter_ents l h,List.filter_cons,blk_close]
 rfl
theorem bal_3{st:List ByteArray}{s:ByteArray}{r:List TV}:balS st (⟨3,s⟩::r)=balS st r:=bal_text (by show (3:Int)≠1;decide) (by show (3:Int)≠2;decide)
theorem bal_ent{b:Bool}{e:EV}{st:List ByteArray}{r:List TV}:balS st (entK b e++r)=balS st r:=by
 unfold entK
 simp only[List.cons_append,List.nil_append]
 rw[bal_open rfl,bal_open rfl,bal_3,bal_close rfl,if_pos rfl,bal_open rfl,bal_3,bal_close rfl,if_pos rfl,bal_close rfl,if_pos rfl]
theorem bal_ents{b:Bool}{st:List ByteArray}{r:List TV}: ∀(l:List EV),balS st (entsK b l++r)=balS st r
 |[]=>rfl
 |e::l=>by
  have e1:entsK b (e::l)++r=entK b e++(entsK b l++r):=by unfold entsK;simp
  rw[e1,bal_ent,bal_ents l]
theorem bal_map{b:Bool}{l:List EV}{r:List TV}:balS [] (mapK b l++r)=balS [] r:=by
 unfold mapK
 rw[List.cons_append,bal_open rfl,List.append_assoc,bal_ents,List.singleton_append,bal_close rfl,if_pos rfl]
theorem read_map{b:Bool}{l:List EV}(h: ∀e∈l,EntNice e)(hl:l.length≤200):readM (mapT b l)=.ok (b,l):=by
 have e:=toksI_map (b:=b) (l:=l) (fun x hx=>(h x hx).1) (by omega)
 have hb:balL (mapK b l)=true:=by
  have:=bal_map (b:=b) (l:=l) (r:=[])
  rw[List.append_nil]at this
  exact this
 unfold readM
 rw[e,if_pos ⟨rfl,hb⟩,filter_map h,mapE_back h hl]
theorem read_ahead{b:Bool}{l:List EV}(h: ∀e∈l,EntNice e)(hl:l.length≤200):readM (aheadX++mapT b l++[10])=.ok (b,l):=by
 have e:=toksI_ahead (b:=b) (l:=l) (fun x hx=>(h x hx).1) (by omega)
 have hb:balL (⟨3,bytesV [10]⟩::⟨3,bytesV [32]⟩::(mapK b l++[⟨3,bytesV [10]⟩]))=true:=by
  unfold balL
  rw[bal_3,bal_3,bal_map,bal_3]
  rfl
 have b1:blkT ⟨3,bytesV [10]⟩=true:=by kernel_rfl
 have b2:blkT ⟨3,bytesV [32]⟩=true:=by kernel_rfl
 unfold readM
 rw[e,if_pos ⟨rfl,hb⟩]
 dsimp only
 rw[List.filter_cons,b1,List.filter_cons,b2,List.filter_append,filter_map h,List.filter_cons,b1]
 show mapE (mapK b l++[])=_
 rw[List.append_nil,mapE_back h hl]
end Go.Proofs.YtfdgehlobbeomaaGreatDoor
