/- RuleSpec3, RuleLen, RulesImpl3, RuleParse. -/
import Derived.Test.YtijliddchoehhaaGreatDoorQA29
import Derived.Deep.RegionHeld3
set_option maxHeartbeats 8000000
set_option maxRecDepth 100000
namespace Go.Proofs.YtijliddchoehhaaGreatDoor
open Go.RowKit
theorem jf_le(c:UInt8)(m:Nat): ∀ls:List ByteArray,(∀x∈ls,x.size≤m)→(ls.flatMap fun y=>c::y.data.toList).length≤ls.length*(m+1)
 |[],_=>by simp
 |x::xs,h=>by
  have hx:=h x (by simp)
  have hs:x.data.toList.length=x.size:=by simp
  have h1:=jf_le c m xs (fun y hy=>h y (by simp[hy]))
  rw[List.flatMap_cons,List.length_append,List.length_cons,List.length_cons,hs,Nat.add_mul]
  omega
theorem jn_most(c:UInt8)(m:Nat)(ls:List ByteArray)(h: ∀x∈ls,x.size≤m):(jn c ls).length≤ls.length*(m+1):=by
 cases ls with
 |nil=>simp[jn]
 |cons x xs=>
  have hx:=h x (by simp)
  have hs:x.data.toList.length=x.size:=by simp
  have h1:=jf_le c m xs (fun y hy=>h y (by simp[hy]))
  show (x.data.toList++xs.flatMap fun y=>c::y.data.toList).length≤_
  rw[List.length_append,List.length_cons,hs,Nat.add_mul]
  omega
end Go.Proofs.YtijliddchoehhaaGreatDoor
namespace Go.Proofs.YtijliddchoehhaaGreatDoor
open Go.RowKit
set_option linter.unusedVariables false
theorem jn_lib(b:UInt8)(ls:List ByteArray):Lib.join (ls.map (·.data.toList)) [b]=jn b ls:=by
 cases ls with
 |nil=>rfl
 |cons x xs=>
  unfold jn
  induction xs generalizing x with
  |nil=>simp[Lib.join,List.intercalate]
  |cons y ys ih=>
   have h:=ih y
   simp only[Lib.join,List.intercalate,List.map_cons]at h⊢
   rw[List.intersperse_cons_cons,List.flatten_cons,List.flatten_cons,h,List.flatMap_cons]
   simp
theorem implRowFirst(fs:List ByteArray)(v:Value)(w:World)(h0:0<fs.length)(h1:fs.length≤2097152)(h:StrRow w v fs):
  Calls Tryz.prog 29 #[v] w fun e w'=> ∃v',e=.returned v'∧w'.ownsRow w.heap.size 9 1 v' fs.length (scells fs.reverse)∧Below w.heap.size w w':=by
 obtain ⟨i0,hi,hz0,hz1,hz2⟩:=info_parts Tryz.infoStr
 rcases h with ⟨h,_⟩|⟨_,g,off,cap,rfl,hg,hc⟩
 ·rw[h]at h0;simp at h0
 have HC:Hid (Calls Tryz.prog 54 #[.slice (some ⟨g,off,none⟩) fs.length (fs.length+cap)] w fun e w'=> ∃v',e=.returned v'∧w'.ownsRow w.heap.size 9 1 v' fs.length (scells fs)∧Below w.heap.size w w'):=by
  refine (AnyE.slices_Clone Tryz.laysSlgn41 i0 _ 1 16 hi hz0 hz1 hz2 rfl (by decide) Tryz.sizeOf9 g off fs.length (fs.length+cap) (scells fs) w (by rw[scells_length,Nat.mul_one]) (by unfold maxLen;omega) (by omega) ?_ ?_).mono ?_
  ·intro j u hj
   have hjl:j<fs.length:=by
    have:=(List.getElem?_eq_some_iff.1 hj).1
    rwa[scells_length]at this
   rw[hc j hjl]
   unfold scells at hj
   rw[List.getElem?_map,List.getElem?_eq_getElem hjl]at hj
   rw[←hj,List.getD_eq_getElem?_getD,List.getElem?_eq_getElem hjl]
   rfl
  ·intro u hu
   unfold scells at hu
   obtain ⟨b,_,rfl⟩:=List.mem_map.1 hu
   rfl
  rintro e w' ⟨v',he,ho,_,hb⟩
  exact ⟨v',he,ho,hb⟩
 clear hc
 go_enter Tryz.func29,Tryz.ntmps29
 go_wp2_with fail
 refine HC.out.mono ?_
 rintro e wa ⟨va,rfl,oa,ba⟩
 rcases oa.2 with ⟨_,hx⟩|⟨q,cq,cur,rfl,hbase,hb,p1,p2,p3,p4⟩
 ·exact absurd hx (by omega)
 have hH:Sort.Holds Go.Proofs.encStr wa q 0 (fs.map (·.data.toList)).toArray:=holds_of_block hb (by rw[List.length_map,←scells_enc];simpa using p4)
 have HR:Hid (Calls Tryz.prog 55 #[.slice (some ⟨q,0,none⟩) fs.length cq] wa fun e w'=>e=.returned (.tuple #[])∧w'.ownsRow w.heap.size 9 1 (.slice (some ⟨q,0,none⟩) fs.length cq) fs.length (scells fs.reverse)∧wa.grownBy w' (some q)):=by
  have hr:=AnyE.slices_Reverse Tryz.laysSlgn35 Go.Proofs.encStr enc_one q 0 cq (fs.map (·.data.toList)) wa hH (by rw[List.length_map];omega)
  rw[List.length_map]at hr
  refine hr.mono ?_
  rintro e w' ⟨he,n,hw⟩
  refine ⟨he,?_,?_⟩
  ·have:=ownsRow_sorted (n:=n) (os:= #[]) (ss:=fs.map (·.data.toList)) (ts:=(fs.map (·.data.toList)).reverse) (by simp) hbase hb (by rw[List.length_map];exact p1) p2 p3
   rw[Sort.grow_empty,←hw,List.length_map,←List.map_reverse,←scells_enc]at this
   exact this
  have:=grownBy_sorted (w:=wa) (g:=q) (n:=n) (os:= #[]) (fs.map (·.data.toList)).reverse.toArray
  rw[Sort.grow_empty,←hw]at this
  exact this
 clear hH hb p4 p3 p2 p1 oa
 go_wp2_with fail
 refine HR.out.mono ?_
 rintro e wb ⟨rfl,ob,gb⟩
 have B2:Below w.heap.size w wb:=ba.grown gb ba.size (fun k hk=>by cases hk;exact hbase)
 clear gb ba
 go_wp2_with fail
 go_ret
 exact ⟨_,rfl,ob,B2⟩
theorem implNameParts(fs:List ByteArray)(v:Value)(w:World)(h0:0<fs.length)(h1:fs.length≤2097152)(hj:(jn 46 fs.reverse).length≤1099511627776)(h:StrRow w v fs):
  Calls Tryz.prog 21 #[v] w fun e w'=>e=.returned (.string ⟨(jn 46 fs.reverse).toArray⟩)∧Below w.heap.size w w':=by
 have CL0:=implRowFirst fs v w h0 h1 h
 have hrl:fs.reverse.length=fs.length:=List.length_reverse
 rw[←hrl]at CL0 h0 h1
 obtain ⟨ao,cap,hv⟩:=h.slice
 clear h
 generalize fs.length=nf at*
 generalize fs.reverse=ls at*
 have CL:Hid (Calls Tryz.prog 29 #[v] w fun e w'=> ∃v',e=.returned v'∧w'.ownsRow w.heap.size 9 1 v' ls.length (scells ls)∧Below w.heap.size w w'):=CL0
 clear CL0 hrl
 subst hv
 go_enter Tryz.func21,Tryz.ntmps21
 go_wp2_with fail
 refine CL.out.mono ?_
 rintro e wa ⟨va,rfl,oa,ba⟩
 clear CL
 rcases own_shape oa with ⟨h,_⟩|⟨_,g,cap',rfl⟩
 ·omega
 have CJ:=Tryz.strings_Join g 0 cap' ls ⟨#[46]⟩ wa (fun j x hj=>by
   have hjl:j<ls.length:=(List.getElem?_eq_some_iff.1 hj).1
   rw[Nat.zero_add,scell_at oa j hjl,List.getD_eq_getElem?_getD,hj]
   rfl) (oa.lt g rfl).2 (by omega) (own_room oa) (by
   rw[show (⟨#[46]⟩:ByteArray).data.toList=[46] from rfl,jn_lib];omega)
 rw[show (⟨#[46]⟩:ByteArray).data.toList=[46] from rfl,jn_lib]at CJ
 have CJ:Hid (CB 47 #[.slice (some ⟨g,0,none⟩) ls.length cap',.string ⟨#[46]⟩] wa (.string ⟨(jn 46 ls).toArray⟩)):=CJ
 clear oa
 go_wp2_with fail
 refine CJ.out.mono ?_
 rintro e wd ⟨rfl,bd⟩
 go_wp2_with fail
 go_ret
 exact ⟨rfl,ba.trans (bd.mono ba.size)⟩
theorem parseF_cons(x:ByteArray)(xs:List ByteArray)(i:Nat)(acc:List RV):parseF (x::xs) i acc=if passB (lineT x)=true then parseF xs (i+1) acc else if rulesB (acc++[readR (lineT x)])=true then parseF xs (i+1) (acc++[readR (lineT x)])else ([],(i:Int)):=rfl
theorem drop_getD{l:List ByteArray}{k:Nat}(h:k<l.length):l.drop k=l.getD k ByteArray.empty::l.drop (k+1):=by
 rw[List.drop_eq_getElem_cons h,List.getD_eq_getElem?_getD,List.getElem?_eq_getElem h]
 rfl
theorem lineT_size(x:ByteArray):(lineT x).size≤x.size:=by
 unfold lineT
 rw[mk_size]
 have h1:(lowerL (Lib.trimS x.data.toList blanks4)).length=(Lib.trimS x.data.toList blanks4).length:=by simp[lowerL]
 have h2:=trimS_le x.data.toList blanks4
 have h3:x.data.toList.length=x.size:=by simp
 omega
theorem ext_two{t:ByteArray}(h:1<t.size):((t.extract 0 2).toList==[47,47])=Lib.hasPrefix t.data.toList [47,47]:=by
 rw[ByteArray.toList_eq,extract_list,List.drop_zero]
 unfold Lib.hasPrefix
 have e:t.data.toList=t.data.toList.take 2++t.data.toList.drop 2:=(List.take_append_drop 2 _).symm
 match hl:t.data.toList,e with
 |[],_=>
  have:t.data.toList.length=t.size:=by simp
  rw[hl]at this
  simp at this
  omega
 |[a],_=>
  have:t.data.toList.length=t.size:=by simp
  rw[hl]at this
  simp at this
  omega
 |a::b::r,_=>
  simp only[List.take_succ_cons,List.take_zero,List.isPrefixOf,Bool.and_true]
  show ((a==47)&&((b==47)&&true))=_
  rw[Bool.and_true,BEq.comm (a:=a),BEq.comm (a:=b)]
theorem passB_not{t:ByteArray}(h:passB t=false):0<t.size∧Lib.hasPrefix t.data.toList [47,47]=false:=by
 unfold passB at h
 simp only[Bool.or_eq_false_iff,decide_eq_false_iff_not]at h
 exact ⟨by omega,h.2⟩
theorem rules_60{l:List RV}(h:rulesB l=true):l.length≤60:=by
 unfold rulesB at h
 simp only[Bool.and_eq_true,decide_eq_true_eq]at h
 exact h.2
theorem rules_sz{l:List RV}(h:rulesB l=true):RSz l:=by
 intro r hr
 obtain ⟨h1,_,h3⟩:=ruleB_yes (rules_each h r hr)
 refine ⟨by omega,fun x hx=> ?_⟩
 obtain ⟨i,hi,rfl⟩:=List.getElem_of_mem hx
 have:=h3 i hi
 rw[List.getD_eq_getElem?_getD,List.getElem?_eq_getElem hi]at this
 have h4:=(part_chars this).1
 unfold partB at this
 simp only[Bool.or_eq_true,Bool.and_eq_true,decide_eq_true_eq]at this
 have hs:r.ps[i].data.toList.length=r.ps[i].size:=by simp
 rcases this with h5|h5
 ·rw[show (some r.ps[i]).getD ByteArray.empty=r.ps[i] from rfl]at h5
  rw[h5.1.1]at hs
  simp at hs
  omega
 have:=(labL_parts h5).2.1
 rw[show (some r.ps[i]).getD ByteArray.empty=r.ps[i] from rfl]at this
 omega
def InRules(w:World)(base:Nat)(vs:List Value)(l:List RV):Prop:= ∀i,i<l.length→ ∃p,vs[i*2]? =some p∧StrRow w p (l.getD i rv0).ps∧vs[i*2+1]? =some (.bool (l.getD i rv0).ex)∧ ∀b,p.ownBlock=some b→base≤b
theorem InRules.below{w w':World}{base:Nat}{vs:List Value}{l:List RV}(h:InRules w base vs l)(hb:Below w.heap.size w w'):InRules w' base vs l:=fun i hi=>by
 obtain ⟨p,h1,h2,h3,h4⟩:=h i hi
 exact ⟨p,h1,h2.below hb,h3,h4⟩
theorem InRules.grown{w w':World}{base B:Nat}{vs:List Value}{l:List RV}(h:InRules w base vs l)(hg:w.grownBy w' (some B))(hB:B<base):InRules w' base vs l:=fun i hi=>by
 obtain ⟨p,h1,h2,h3,h4⟩:=h i hi
 exact ⟨p,h1,h2.grown hg (fun e=>by have:=h4 B e;omega),h3,h4⟩
theorem InRules.snoc{w:World}{base:Nat}{vs:List Value}{l:List RV}{p:Value}{r:RV}(h:InRules w base vs l)(hl:vs.length=l.length*2)(hp:StrRow w p r.ps)(hb: ∀b,p.ownBlock=some b→base≤b):InRules w base (vs++[p,.bool r.ex]) (l++[r]):=fun i hi=>by
 by_cases hik:i<l.length
 ·obtain ⟨q,h1,h2,h3,h4⟩:=h i hik
  have e:(l++[r]).getD i rv0=l.getD i rv0:=by rw[List.getD_eq_getElem?_getD,List.getD_eq_getElem?_getD,List.getElem?_append_left hik]
  rw[e]
  exact ⟨q,by rw[List.getElem?_append_left (by omega)];exact h1,h2,by rw[List.getElem?_append_left (by omega)];exact h3,h4⟩
 obtain rfl:i=l.length:=by simp at hi;omega
 have e:(l++[r]).getD l.length rv0=r:=by simp[List.getD]
 rw[e]
 exact ⟨p,by rw[List.getElem?_append_right (by omega),hl];simp,hp,by rw[List.getElem?_append_right (by omega),hl];simp,hb⟩
theorem InRules.cells{w:World}{base:Nat}{vs:List Value}{l:List RV}(h:InRules w base vs l): ∀i,i<l.length→ ∃p,vs[i*2]? =some p∧StrRow w p (l.getD i rv0).ps∧vs[i*2+1]? =some (.bool (l.getD i rv0).ex):=fun i hi=>by
 obtain ⟨p,h1,h2,h3,_⟩:=h i hi
 exact ⟨p,h1,h2,h3⟩
theorem InRules.one{w:World}{base:Nat}{vs:List Value}{l:List RV}(h:InRules w base vs l)(hl:vs.length=l.length*2): ∀u∈vs,u.oneCell'=true:=by
 intro u hu
 obtain ⟨j,hj,rfl⟩:=List.getElem_of_mem hu
 obtain ⟨p,h1,h2,h3,_⟩:=h (j/2) (by omega)
 by_cases hm:j%2=0
 ·rw[show j/2*2=j by omega,List.getElem?_eq_getElem hj]at h1
  injection h1 with h1
  obtain ⟨ao,cap,e⟩:=h2.slice
  rw[h1,e]
  rfl
 rw[show j/2*2+1=j by omega,List.getElem?_eq_getElem hj]at h3
 injection h3 with h3
 rw[h3]
 rfl
theorem own_cellsA{w:World}{base:Nat}{e:TypeId}{size n c:Nat}{ad:Addr}{xs:List Value}(h:w.ownsRow base e size (.slice (some ad) n c) n xs){j:Nat}{u:Value}(hj:xs[j]? =some u):w.cell? (ad.add j)=some u:=by
 rcases h.2 with ⟨h',_⟩|⟨g,cap,cur,h',_⟩
 ·cases h'
 simp only[Value.slice.injEq,Option.some.injEq,true_and]at h'
 obtain ⟨rfl,_⟩:=h'
 exact h.cells (g:=g) rfl j u hj
def Apart(g:Nat)(vs:List Value)(l:List RV):Prop:= ∀i,i<l.length→ ∀p b,vs[i*2]? =some p→(l.getD i rv0).ps≠[]→p.ownBlock=some b→b≠g
theorem Apart.nil(g:Nat)(vs:List Value):Apart g vs []:=fun i hi=>absurd hi (Nat.not_lt_zero _)
theorem Apart.new{w:World}{base g:Nat}{vs:List Value}{l:List RV}(h:InRules w base vs l)(hg:w.heap.size≤g):Apart g vs l:=fun i hi p b hp hne hb=>by
 obtain ⟨q,h1,h2,_,_⟩:=h i hi
 rw[h1]at hp
 injection hp with hp
 subst hp
 rcases h2 with ⟨h2,_⟩|⟨_,g',off,cap,rfl,h3,_⟩
 ·exact absurd h2 hne
 injection hb with hb
 rw[←hb]
 show g'≠g
 omega
theorem InRules.apart{w w':World}{base g:Nat}{vs:List Value}{l:List RV}(h:InRules w base vs l)(ha:Apart g vs l)(hg:w.grownBy w' (some g)):InRules w' base vs l:=fun i hi=>by
 obtain ⟨p,h1,h2,h3,h4⟩:=h i hi
 by_cases h0:(l.getD i rv0).ps=[]
 ·rw[h0]at h2⊢
  rcases h2 with h2|⟨h2,_⟩
  ·exact ⟨p,h1,.inl h2,h3,h4⟩
  exact absurd h2 (Nat.lt_irrefl 0)
 exact ⟨p,h1,h2.grown hg (fun e=>ha i hi p g h1 h0 e rfl),h3,h4⟩
def RuleAns(w:World)(base:Nat)(v:Value)(l:List RV):Prop:= ∃(vs:List Value) (ad:Addr) (c:Nat),v=.slice (some ad) l.length c∧w.ownsRow base 37 2 v l.length vs∧InRules w base vs l∧Apart ad.block vs l
theorem RuleAns.row{w:World}{base:Nat}{v:Value}{l:List RV}(h:RuleAns w base v l):RuleRow w v l:=by
 obtain ⟨vs,ad,c,_,h1,h2,_⟩:=h
 exact RuleRow.of_own h1 h2.cells
theorem RuleAns.below{w w':World}{base:Nat}{v:Value}{l:List RV}(h:RuleAns w base v l)(hb:Below w.heap.size w w'):RuleAns w' base v l:=by
 obtain ⟨vs,ad,c,h0,h1,h2,h3⟩:=h
 exact ⟨vs,ad,c,h0,own_below h1 hb,h2.below hb,h3⟩
theorem RuleAns.grown{w w':World}{base B:Nat}{v:Value}{l:List RV}(h:RuleAns w base v l)(hg:w.grownBy w' (some B))(hB:B<base):RuleAns w' base v l:=by
 obtain ⟨vs,ad,c,h0,h1,h2,h3⟩:=h
 exact ⟨vs,ad,c,h0,h1.kept hg (.inr fun e=>by have:=(h1.lt B e).1;omega),h2.grown hg hB,h3⟩
theorem specParseRulesO(s:ByteArray)(w:World)(hs:s.size≤1048576):
  Calls Tryz.prog 38 #[.string s] w fun e w'=> ∃v,e=.returned (.tuple #[v,.int .i64 (parseR s).2])∧RuleAns w' w.heap.size v (parseR s).1∧Below w.heap.size w w':=by
 have bO:Below w.heap.size w (w.alloc (.cells #[] 37)):=(Below.refl _ _).alloc (Nat.le_refl _) _
 obtain ⟨i0,hi,hz0,hz1,hz2⟩:=info_parts Tryz.infoRule
 have CF:Hid (∀W,Calls Tryz.prog 66 #[.string s,.int .u8 10] W fun e w'=> ∃v,e=.returned v∧w'.ownsRow W.heap.size 9 1 v (fieldsL s 10).length (scells (fieldsL s 10))∧Below W.heap.size W w'):=fun W=>specFields s 10 W hs
 have HP:Hid (parseF (fieldsL s 10) 0 []=parseR s):=rfl
 have HSZ:Hid (∀x∈fieldsL s 10,x.size≤s.size):=fieldsL_sizes s 10
 have hfl:=fields_le s 10
 have hfp:=fieldsL_pos s 10
 generalize parseR s=R at HP⊢
 go_enter Tryz.func38,Tryz.ntmps38
 go_wp2_with fail
 refine (CF.out _).mono ?_
 rintro e w1 ⟨vf,rfl,of,b1⟩
 have B1:Hid (Below w.heap.size w w1):=bO.trans (b1.mono bO.size)
 clear CF bO
 generalize fieldsL s 10=fs at*
 rcases own_shape of with ⟨h,_⟩|⟨_,g,cap,rfl⟩
 ·omega
 have OF:=hidden of
 have OO:Hid (w1.ownsRow w.heap.size 37 2 (.slice (some ⟨w.heap.size,0,none⟩) 0 0) 0 []):=own_below (World.ownsRow_made w #[] 0 (Nat.le_refl _) (by decide) rfl) b1
 clear of b1
 go_wp2_with fail
 go_loopw[4,6] (fun o i wr=> ∃(k:Nat) (acc:List RV) (vs:List Value) (ad:Addr) (c:Nat),k≤fs.length∧i=.int .i64 k∧o=.slice (some ad) acc.length c∧Hid (wr.ownsRow w.heap.size 37 2 o acc.length vs∧InRules wr w.heap.size vs acc)∧Hid (parseF (fs.drop k) k acc=R)∧Hid (rulesB acc=true)∧Hid (Apart ad.block vs acc)∧Below w1.heap.size w1 wr) (fun _ i _=>fs.length-(intOf i).toNat)
 case atStart=>exact ⟨0,[],[],⟨w.heap.size,0,none⟩,0,Nat.zero_le _,rfl,rfl,⟨OO.out,fun i hi=>absurd hi (Nat.not_lt_zero _)⟩,HP.out,(by decide:rulesB []=true),Apart.nil _ _,Below.refl _ _⟩
 obtain ⟨k,acc,vs,ad,c,hk,rfl,rfl,HR,HF,HB,HAP,hbel⟩:=hrel
 clear HP
 by_cases hlt:k<fs.length
 ·have hki:(k:Int)<fs.length:=by omega
  have ca:=scell_at (own_below OF.out hbel) k hlt
  have hxs:=HSZ.out _ (by
   show fs.getD k ByteArray.empty∈fs
   rw[List.getD_eq_getElem?_getD,List.getElem?_eq_getElem hlt]
   exact List.getElem_mem _)
  have hF:=HF.out
  rw[drop_getD hlt,parseF_cons]at hF
  clear HF
  generalize fs.getD k ByteArray.empty=x at ca hxs hF
  have hls:=lineT_size x
  have CT:Hid (CS 68 #[.string x] wr (.string ⟨(Lib.trimS x.data.toList blanks4).toArray⟩)):=specTrim x wr (by omega)
  have CL:Hid (CB 67 #[.string ⟨(Lib.trimS x.data.toList blanks4).toArray⟩] wr (.string (lineT x))):=specLower ⟨(Lib.trimS x.data.toList blanks4).toArray⟩ wr (by
   rw[mk_size]
   have:=trimS_le x.data.toList blanks4
   have h3:x.data.toList.length=x.size:=by simp
   omega)
  generalize (⟨(Lib.trimS x.data.toList blanks4).toArray⟩:ByteArray)=T1 at CT CL
  generalize lineT x=t at hF hls CL
  go_wp2_with fail
  refine CT.out.mono ?_
  rintro e w' ⟨rfl,rfl⟩
  go_wp2_with fail
  refine CL.out.mono ?_
  rintro e w2 ⟨rfl,b2⟩
  have HR2:Hid (w2.ownsRow w.heap.size 37 2 (.slice (some ad) acc.length c) acc.length vs∧InRules w2 w.heap.size vs acc):=⟨own_below HR.out.1 b2,HR.out.2.below b2⟩
  have B2:=hbel.trans (b2.mono hbel.size)
  clear CT CL b2 hbel HR ca
  cases hpb:passB t with
  |true=>
   rw[if_pos hpb]at hF
   have HF:Hid (parseF (fs.drop (k+1)) (k+1) acc=R):=hF
   clear hF
   by_cases h0:t.size=0
   ·have he:=empty_yes h0
    clear hpb
    go_wp2_with fail
    go_roundw
    case rel=>exact ⟨k+1,acc,vs,ad,c,by omega,by go_num,rfl,HR2,HF,HB,HAP,B2⟩
    case measure=>simp[intOf];omega
   have he:=empty_no (show 0<t.size by omega)
   have hpre:Lib.hasPrefix t.data.toList [47,47]=true:=by
    unfold passB at hpb
    rw[decide_eq_false h0]at hpb
    exact hpb
   have h1:1<t.size:=by
    obtain ⟨r,hr⟩:=List.isPrefixOf_iff_prefix.1 hpre
    have:t.data.toList.length=t.size:=by simp
    rw[←hr]at this
    simp at this
    omega
   have h2:=ext_two h1
   rw[hpre]at h2
   have h1i:1<(t.size:Int):=by omega
   clear hpb hpre
   go_wp2_with fail
   go_roundw
   case rel=>exact ⟨k+1,acc,vs,ad,c,by omega,by go_num,rfl,HR2,HF,HB,HAP,B2⟩
   case measure=>simp[intOf];omega
  |false=>
   obtain ⟨h0,hpre⟩:=passB_not hpb
   rw[if_neg (by rw[hpb];decide)]at hF
   have HF:=hidden hF
   clear hF hpb
   have he:=empty_no h0
   have h7:(1<(t.size:Int)∧((t.extract 0 2).toList==[47,47])=false)∨ ¬1<(t.size:Int):=by
    by_cases h1:1<t.size
    ·exact .inl ⟨by omega,by rw[ext_two h1,hpre]⟩
    exact .inr (by omega)
   have HD:Hid (t.data.toList.head? =some t[0]):=by
    show _=_
    rw[List.head?_eq_getElem?,List.getElem?_eq_getElem (by simpa using h0)]
    rfl
   obtain ⟨d,hd⟩: ∃d:Nat,t[0].toNat=d:=⟨_,rfl⟩
   have hd1:(d:Int)≤255:=by have:=t[0].toNat_lt;omega
   have HX:Hid (readR t=if d=33 then ⟨partsL (t.extract 1 t.size),true⟩else ⟨partsL t,false⟩):=by
    show _=_
    unfold readR
    rw[HD.out]
    by_cases h33:d=33
    ·rw[if_pos h33,if_pos (by rw[show t[0]=33 from UInt8.toNat_inj.1 (by rw[hd,h33];rfl)])]
    rw[if_neg h33,if_neg (fun e=>h33 (by rw[←hd];injection e with e;rw[e];rfl))]
   clear HD hpre
   generalize readR t=rr at HX HF
   have h0i:0<(t.size:Int):=by omega
   by_cases h33:d=33
   ·rw[if_pos h33]at HX
    subst h33
    have hex:(t.extract 1 t.size).size≤1048576:=by rw[ByteArray.size_extract];omega
    rcases h7 with ⟨h1i,h2⟩|h1i
    ·have HVL:Hid (vs.length=acc.length*2):=HR2.out.1.1
     have HV1:Hid (∀u∈vs,u.oneCell'=true):=HR2.out.2.one HR2.out.1.1
     have h60:=rules_60 HB.out
     have hw1:w.heap.size≤w2.heap.size:=by have:=B1.out.size;have:=B2.size;omega
     have CP:Hid (Calls Tryz.prog 62 #[.string (t.extract 1 t.size)] (w2.alloc (.cells #[.slice none 0 0,.bool true] 37)) fun e w'=> ∃v,e=.returned v∧w'.ownsRow (w2.alloc (.cells #[.slice none 0 0,.bool true] 37)).heap.size 9 1 v (partsL (t.extract 1 t.size)).length (scells (partsL (t.extract 1 t.size)))∧Below (w2.alloc (.cells #[.slice none 0 0,.bool true] 37)).heap.size (w2.alloc (.cells #[.slice none 0 0,.bool true] 37)) w'):=specParts (t.extract 1 t.size) _ hex
     have HLS:Hid ((partsL (t.extract 1 t.size)).length≤2097152∧ ∀x∈partsL (t.extract 1 t.size),x.size≤1048576):=⟨by have:=parts_most (t.extract 1 t.size);omega,fun x hx=>by have:=parts_sizes (t.extract 1 t.size) x hx;omega⟩
     generalize partsL (t.extract 1 t.size)=L at CP HX HLS
     have BA:BAt (w2.alloc (.cells #[.slice none 0 0,.bool true] 37)) w2.heap.size [.slice none 0 0,.bool true]:=BAt.new w2 #[.slice none 0 0,.bool true] _
     have bA:Below w2.heap.size w2 (w2.alloc (.cells #[.slice none 0 0,.bool true] 37)):=(Below.refl _ _).alloc (Nat.le_refl _) _
     go_upto_region 12 with fail
     go_wp2_with fail
     refine CP.out.mono ?_
     rintro e w3 ⟨p,rfl,op,b3⟩
     have A3:=BA.below b3
     have b23:=bA.trans (b3.mono bA.size)
     have b24:=b23.setCell (p:=⟨w2.heap.size,0,none⟩) (Nat.le_refl _) p
     have A4:=hidden (A3.set 0 (by decide) p)
     have S4:=hidden (StrRow.of_own (own_put op (C:=w2.heap.size) (by simp) 0 p))
     have f3:=A3.2.1
     have c30:=A3.1 0 _ rfl
     obtain ⟨pao,pcap,rfl⟩:=(StrRow.of_own op).slice
     have HPB:Hid (∀b,(Value.slice pao L.length pcap).ownBlock=some b→w.heap.size≤b):=fun b hb=>by have:=(op.lt b hb).1;have h2:=bA.size;omega
     have B4:=B2.trans (b24.mono B2.size)
     have H4:Hid ((w3.setCell ⟨w2.heap.size,0,none⟩ (.slice pao L.length pcap)).ownsRow w.heap.size 37 2 (.slice (some ad) acc.length c) acc.length vs∧InRules (w3.setCell ⟨w2.heap.size,0,none⟩ (.slice pao L.length pcap)) w.heap.size vs acc):=⟨own_below HR2.out.1 b24,HR2.out.2.below b24⟩
     clear CP BA bA op b3 A3 b23 b24 HR2 B2
     go_upto_region 13 with fail
     obtain ⟨bx,hbx⟩: ∃b:Bool,b=true:=⟨_,rfl⟩
     rw[←hbx]at A4
     have HX2:Hid (rr=⟨L,bx⟩):=by show _=_;rw[hbx];exact HX.out
     clear HX hbx
     have hD4:=A4.out.2.2
     generalize w3.setCell ⟨w2.heap.size,0,none⟩ (.slice pao L.length pcap)=w4 at A4 S4 B4 H4 hD4⊢
     generalize w2.heap.size=D at A4 hD4 hw1⊢
     clear f3 c30
     have hw4:w.heap.size≤w4.heap.size:=by omega
     have HVC:Hid (∀W,Below w4.heap.size w4 W→ ∀j u,vs[j]? =some u→W.cell? (ad.add j)=some u):=fun W hb j u hj=>own_cellsA (own_below H4.out.1 hb) hj
     refine wp_region_held_drew (S:=fun W=>Below w4.heap.size w4 W) (by kernel_rfl) (Below.refl _ w4).drew (fun h0=> ?_)
     refine wpAnyH_take (i:=1) (v:= ?_) rfl (by kernel_rfl) (by kernel_rfl) (by kernel_rfl) (fun _ _ _ h=>h) (Or.inl ⟨by rfl,fun W hW=> ?_⟩) h0 ?_
     rotate_left
     ·clear hW
      go_simp
      try with_reducible rfl
     simp only[Act.put,List.getElem_toArray,List.getElem_cons_zero,List.getElem_cons_succ,List.setIfInBounds_toArray,List.set_cons_zero,List.set_cons_succ]
     refine wpAnyH_take (i:=3) (v:=.agg #[.slice pao L.length pcap,.bool bx]) rfl (by kernel_rfl) (by kernel_rfl) (by kernel_rfl) (fun _ _ _ h=>h) (Or.inl ⟨by rfl,fun W hW=> ?_⟩) h0 ?_
     ·have q0:=(A4.out.below hW).1 0 _ rfl
      have q1:=(A4.out.below hW).1 1 _ rfl
      go_simp
     simp only[Act.put,List.getElem_toArray,List.getElem_cons_zero,List.getElem_cons_succ,List.setIfInBounds_toArray,List.set_cons_zero,List.set_cons_succ]
     refine wpAnyH_ready (rs:=[0,4]) (by kernel_rfl) (by simp) (AllReadyH.cons rfl (fun K hK=> ?_) (AllReadyH.cons rfl (fun K hK=> ?_) AllReadyH.nil))
     ·go_simp
      refine hK.out _ _ (h0.alloc h0.size _) (fun h1=> ?_)
      clear hK K h1
      have o47:=hidden (World.ownsRow_made (e:=37) (size:=2) (base:=w4.heap.size) w4.drew #[] 0 (Nat.le_refl _) (by decide) rfl)
      have h1:Below w4.heap.size w4 (w4.drew.alloc (.cells #[] 37)):=h0.alloc h0.size _
      refine wpAnyH_ready (rs:=[2,4]) (by kernel_rfl) (by simp) (AllReadyH.cons rfl (fun K hK=> ?_) (AllReadyH.cons rfl (fun K hK=> ?_) AllReadyH.nil))
      ·rw[if_pos (by rfl)]
       refine wp_append_own _ (.tmp 47) (.tmp 48) 24 rfl w4.heap.size 37 i0 (.agg #[.slice none 0 0,.bool false]) 2 32 Tryz.underlying24 hi hz0 hz1 hz2 rfl (by decide) (.slice (some ⟨w4.drew.heap.size,0,none⟩) 0 0) 0 [] rfl (o47.out) ad acc.length c vs rfl HVL.out (HVC.out _ (h1)) HV1.out (by unfold maxLen;omega) (by omega) (h1).size ?_
       intro v49 wq o49 g49 _
       rw[Nat.zero_add,List.nil_append]at o49
       have hq:=(h1).grown g49 (h1).size (fun k hk=>((o47.out).lt k hk).1)
       refine hK.out _ _ hq (fun h3=> ?_)
       clear hK K h3
       refine wpAnyH_ready (rs:=[4]) (by kernel_rfl) (by simp) (AllReadyH.cons rfl (fun K hK=> ?_) AllReadyH.nil)
       go_simp
       refine hK.out _ _ (hq.alloc hq.size _) (fun h3=> ?_)
       clear hK K
       refine wpAnyH_ready (rs:=[5]) (by kernel_rfl) (by simp) (AllReadyH.cons rfl (fun K hK=> ?_) AllReadyH.nil)
       have oB:=o49.alloc (.cells #[.slice pao L.length pcap,.bool bx] 37)
       have hB:=hq.alloc hq.size (.cells #[.slice pao L.length pcap,.bool bx] 37)
       have tB:=BAt.new wq #[.slice pao L.length pcap,.bool bx] 37
       rw[if_pos (by rfl)]
       refine wp_append_own _ (.tmp 49) (.tmp 51) 24 rfl w4.heap.size 37 i0 (.agg #[.slice none 0 0,.bool false]) 2 32 Tryz.underlying24 hi hz0 hz1 hz2 rfl (by decide) v49 acc.length vs rfl (oB) ⟨wq.heap.size,0,none⟩ 1 1 [.slice pao L.length pcap,.bool bx] rfl rfl (fun j u hj=>by rw[Addr.add_lit,Nat.zero_add];exact (tB).1 j u hj) (by intro u hu;simp at hu;rcases hu with rfl|rfl<;>rfl) (by unfold maxLen;omega) (by omega) (hB).size ?_
       intro v52 w5 o52 g52 _
       have h5:=(hB).grown g52 (hB).size (fun k hk=>((oB).lt k hk).1)
       refine hK.out _ _ h5 (fun h6=> ?_)
       clear hK K
       refine wpAnyH_take (i:=6) (v:= ?_) rfl (by kernel_rfl) (by kernel_rfl) (by kernel_rfl) (fun _ _ _ h=>h) (Or.inl ⟨by rfl,fun W hW=> ?_⟩) h6 ?_
       rotate_left
       ·clear hW
        go_simp
        try with_reducible rfl
       refine wpAnyH_done (by kernel_rfl) ?_ _
       have O5:=hidden o52
       have H5:=hidden h5
       clear o52 h5 h6 g52
       simp only[Act.put,List.getElem_toArray,List.getElem_cons_zero,List.getElem_cons_succ,List.setIfInBounds_toArray,List.set_cons_zero,List.set_cons_succ]
       (try clear oB);(try clear hB);(try clear tB);(try clear tq);clear o49 g49 hq
       obtain ⟨g5,c5,rfl⟩: ∃g5 c5,v52=.slice (some ⟨g5,0,none⟩) (acc.length+1) c5:=by
        rcases O5.out.2 with ⟨_,h⟩|⟨g5,c5,cur,h,_⟩
        ·omega
        exact ⟨g5,c5,h⟩
       have O6:Hid (w5.ownsRow w.heap.size 37 2 (.slice (some ⟨g5,0,none⟩) (acc.length+1) c5) (acc++[rr]).length (vs++[.slice pao L.length pcap,.bool bx])):=by
        have:=own_wide0 O5.out hw4
        rw[List.length_append]
        exact this
       have I6:Hid (InRules w5 w.heap.size (vs++[.slice pao L.length pcap,.bool bx]) (acc++[rr])):=by
        rw[HX2.out]
        exact (H4.out.2.below H5.out).snoc (r:=⟨L,bx⟩) HVL.out (S4.out.below H5.out) HPB.out
       have HA7:Hid (Apart g5 (vs++[.slice pao L.length pcap,.bool bx]) (acc++[rr])):=by
        rw[HX2.out]
        exact Apart.new (H4.out.2.snoc (r:=⟨L,bx⟩) HVL.out S4.out HPB.out) (O5.out.lt g5 rfl).1
       have B6:=B4.trans (H5.out.mono B4.size)
       have hal:(acc++[rr]).length=acc.length+1:=by simp
       have HS6:Hid (RSz (acc++[rr])):=fun r hr=>by
        rcases List.mem_append.1 hr with h|h
        ·exact rules_sz HB.out r h
        rw[List.mem_singleton.1 h,HX2.out]
        exact HLS.out
       have CR:Hid (CB 42 #[.slice (some ⟨g5,0,none⟩) (acc.length+1) c5] w5 (.bool (rulesB (acc++[rr])))):=specRulesOk (acc++[rr]) _ w5 (by omega) HS6.out (RuleRow.of_own O6.out I6.out.cells)
       clear O5 H5 HS6
       cases hrb:rulesB (acc++[rr])with
       |false=>
        have hE:=HF.out
        rw[hrb,if_neg (by decide)]at hE
        rw[hrb]at CR
        clear hrb HF O6 I6
        subst hE
        go_wp2_with fail
        refine CR.out.mono ?_
        rintro e w6 ⟨rfl,b6⟩
        have B7:=(B6.trans (b6.mono B6.size)).alloc (B6.trans (b6.mono B6.size)).size (.cells #[] 37)
        have o7:=World.ownsRow_made (e:=37) (size:=2) (base:=w.heap.size) w6 #[] 0 (by have:=(B6.trans (b6.mono B6.size)).size;have:=B1.out.size;omega) (by decide) rfl
        clear b6 B6
        go_wp2_with fail
        go_ret2
        exact ⟨_,rfl,⟨[],_,_,rfl,o7,(fun i hi=>absurd hi (Nat.not_lt_zero _)),Apart.nil _ _⟩,B1.out.trans (B7.mono B1.out.size)⟩
       |true=>
        have hE:=HF.out
        rw[if_pos hrb]at hE
        have HF7:=hidden hE
        have HB7:=hidden hrb
        rw[hrb]at CR
        clear hrb HF hE
        go_wp2_with fail
        refine CR.out.mono ?_
        rintro e w6 ⟨rfl,b6⟩
        have B7:=B6.trans (b6.mono B6.size)
        have R7:Hid (w6.ownsRow w.heap.size 37 2 (.slice (some ⟨g5,0,none⟩) (acc.length+1) c5) (acc++[rr]).length (vs++[.slice pao L.length pcap,.bool bx])∧InRules w6 w.heap.size (vs++[.slice pao L.length pcap,.bool bx]) (acc++[rr])):=⟨own_below O6.out b6,I6.out.below b6⟩
        clear b6 B6 O6 I6 CR
        go_wp2_with fail
        go_roundw
        case rel=>exact ⟨k+1,acc++[rr],_,_,_,by omega,by go_num,by rw[hal],R7,HF7,HB7,HA7,B7⟩
        case measure=>simp[intOf];omega
      go_simp
      refine hK.out _ _ (h1.alloc h1.size _) (fun h3=> ?_)
      clear hK K h3
      have oB:=o47.out.alloc (.cells #[.slice pao L.length pcap,.bool bx] 37)
      have hB:=h1.alloc h1.size (.cells #[.slice pao L.length pcap,.bool bx] 37)
      have tB:BAt ((w4.drew.alloc (.cells #[] 37)).alloc (.cells #[.slice pao L.length pcap,.bool bx] 37)) (w4.heap.size+1) [.slice pao L.length pcap,.bool bx]:=by
       have:=BAt.new (w4.drew.alloc (.cells #[] 37)) #[.slice pao L.length pcap,.bool bx] 37
       rw[World.size_alloc]at this
       exact this
      refine wpAnyH_ready (rs:=[2]) (by kernel_rfl) (by simp) (AllReadyH.cons rfl (fun K hK=> ?_) AllReadyH.nil)
      rw[if_pos (by rfl)]
      refine wp_append_own _ (.tmp 47) (.tmp 48) 24 rfl w4.heap.size 37 i0 (.agg #[.slice none 0 0,.bool false]) 2 32 Tryz.underlying24 hi hz0 hz1 hz2 rfl (by decide) (.slice (some ⟨w4.drew.heap.size,0,none⟩) 0 0) 0 [] rfl (oB) ad acc.length c vs rfl HVL.out (HVC.out _ (hB)) HV1.out (by unfold maxLen;omega) (by omega) (hB).size ?_
      intro v49 wq o49 g49 _
      rw[Nat.zero_add,List.nil_append]at o49
      have hq:=(hB).grown g49 (hB).size (fun k hk=>((oB).lt k hk).1)
      have tq:=tB.grown (C:=w4.heap.size) g49 (by omega)
      refine hK.out _ _ hq (fun h3=> ?_)
      clear hK K h3
      refine wpAnyH_ready (rs:=[5]) (by kernel_rfl) (by simp) (AllReadyH.cons rfl (fun K hK=> ?_) AllReadyH.nil)
      rw[if_pos (by rfl)]
      refine wp_append_own _ (.tmp 49) (.tmp 51) 24 rfl w4.heap.size 37 i0 (.agg #[.slice none 0 0,.bool false]) 2 32 Tryz.underlying24 hi hz0 hz1 hz2 rfl (by decide) v49 acc.length vs rfl (o49) ⟨(w4.heap.size+1),0,none⟩ 1 1 [.slice pao L.length pcap,.bool bx] rfl rfl (fun j u hj=>by rw[Addr.add_lit,Nat.zero_add];exact (tq).1 j u hj) (by intro u hu;simp at hu;rcases hu with rfl|rfl<;>rfl) (by unfold maxLen;omega) (by omega) (hq).size ?_
      intro v52 w5 o52 g52 _
      have h5:=(hq).grown g52 (hq).size (fun k hk=>((o49).lt k hk).1)
      refine hK.out _ _ h5 (fun h6=> ?_)
      clear hK K
      refine wpAnyH_take (i:=6) (v:= ?_) rfl (by kernel_rfl) (by kernel_rfl) (by kernel_rfl) (fun _ _ _ h=>h) (Or.inl ⟨by rfl,fun W hW=> ?_⟩) h6 ?_
      rotate_left
      ·clear hW
       go_simp
       try with_reducible rfl
      refine wpAnyH_done (by kernel_rfl) ?_ _
      have O5:=hidden o52
      have H5:=hidden h5
      clear o52 h5 h6 g52
      simp only[Act.put,List.getElem_toArray,List.getElem_cons_zero,List.getElem_cons_succ,List.setIfInBounds_toArray,List.set_cons_zero,List.set_cons_succ]
      (try clear oB);(try clear hB);(try clear tB);(try clear tq);clear o49 g49 hq
      obtain ⟨g5,c5,rfl⟩: ∃g5 c5,v52=.slice (some ⟨g5,0,none⟩) (acc.length+1) c5:=by
       rcases O5.out.2 with ⟨_,h⟩|⟨g5,c5,cur,h,_⟩
       ·omega
       exact ⟨g5,c5,h⟩
      have O6:Hid (w5.ownsRow w.heap.size 37 2 (.slice (some ⟨g5,0,none⟩) (acc.length+1) c5) (acc++[rr]).length (vs++[.slice pao L.length pcap,.bool bx])):=by
       have:=own_wide0 O5.out hw4
       rw[List.length_append]
       exact this
      have I6:Hid (InRules w5 w.heap.size (vs++[.slice pao L.length pcap,.bool bx]) (acc++[rr])):=by
       rw[HX2.out]
       exact (H4.out.2.below H5.out).snoc (r:=⟨L,bx⟩) HVL.out (S4.out.below H5.out) HPB.out
      have HA7:Hid (Apart g5 (vs++[.slice pao L.length pcap,.bool bx]) (acc++[rr])):=by
       rw[HX2.out]
       exact Apart.new (H4.out.2.snoc (r:=⟨L,bx⟩) HVL.out S4.out HPB.out) (O5.out.lt g5 rfl).1
      have B6:=B4.trans (H5.out.mono B4.size)
      have hal:(acc++[rr]).length=acc.length+1:=by simp
      have HS6:Hid (RSz (acc++[rr])):=fun r hr=>by
       rcases List.mem_append.1 hr with h|h
       ·exact rules_sz HB.out r h
       rw[List.mem_singleton.1 h,HX2.out]
       exact HLS.out
      have CR:Hid (CB 42 #[.slice (some ⟨g5,0,none⟩) (acc.length+1) c5] w5 (.bool (rulesB (acc++[rr])))):=specRulesOk (acc++[rr]) _ w5 (by omega) HS6.out (RuleRow.of_own O6.out I6.out.cells)
      clear O5 H5 HS6
      cases hrb:rulesB (acc++[rr])with
      |false=>
       have hE:=HF.out
       rw[hrb,if_neg (by decide)]at hE
       rw[hrb]at CR
       clear hrb HF O6 I6
       subst hE
       go_wp2_with fail
       refine CR.out.mono ?_
       rintro e w6 ⟨rfl,b6⟩
       have B7:=(B6.trans (b6.mono B6.size)).alloc (B6.trans (b6.mono B6.size)).size (.cells #[] 37)
       have o7:=World.ownsRow_made (e:=37) (size:=2) (base:=w.heap.size) w6 #[] 0 (by have:=(B6.trans (b6.mono B6.size)).size;have:=B1.out.size;omega) (by decide) rfl
       clear b6 B6
       go_wp2_with fail
       go_ret2
       exact ⟨_,rfl,⟨[],_,_,rfl,o7,(fun i hi=>absurd hi (Nat.not_lt_zero _)),Apart.nil _ _⟩,B1.out.trans (B7.mono B1.out.size)⟩
      |true=>
       have hE:=HF.out
       rw[if_pos hrb]at hE
       have HF7:=hidden hE
       have HB7:=hidden hrb
       rw[hrb]at CR
       clear hrb HF hE
       go_wp2_with fail
       refine CR.out.mono ?_
       rintro e w6 ⟨rfl,b6⟩
       have B7:=B6.trans (b6.mono B6.size)
       have R7:Hid (w6.ownsRow w.heap.size 37 2 (.slice (some ⟨g5,0,none⟩) (acc.length+1) c5) (acc++[rr]).length (vs++[.slice pao L.length pcap,.bool bx])∧InRules w6 w.heap.size (vs++[.slice pao L.length pcap,.bool bx]) (acc++[rr])):=⟨own_below O6.out b6,I6.out.below b6⟩
       clear b6 B6 O6 I6 CR
       go_wp2_with fail
       go_roundw
       case rel=>exact ⟨k+1,acc++[rr],_,_,_,by omega,by go_num,by rw[hal],R7,HF7,HB7,HA7,B7⟩
       case measure=>simp[intOf];omega
     go_simp
     refine hK.out _ _ (h0.alloc h0.size _) (fun h1=> ?_)
     clear hK K h1
     have h1:=h0.alloc h0.size (.cells #[.slice pao L.length pcap,.bool bx] 37)
     have t1:=BAt.new w4.drew #[.slice pao L.length pcap,.bool bx] 37
     refine wpAnyH_ready (rs:=[0]) (by kernel_rfl) (by simp) (AllReadyH.cons rfl (fun K hK=> ?_) AllReadyH.nil)
     go_simp
     refine hK.out _ _ (h1.alloc h1.size _) (fun h3=> ?_)
     clear hK K h3
     have hB:=h1.alloc h1.size (.cells #[] 37)
     have tB:=t1.alloc (.cells #[] 37)
     have oB:((w4.drew.alloc (.cells #[.slice pao L.length pcap,.bool bx] 37)).alloc (.cells #[] 37)).ownsRow w4.heap.size 37 2 (.slice (some ⟨w4.heap.size+1,0,none⟩) 0 0) 0 []:=by
      have:=World.ownsRow_made (e:=37) (size:=2) (base:=w4.heap.size) (w4.drew.alloc (.cells #[.slice pao L.length pcap,.bool bx] 37)) #[] 0 (by simp) (by decide) rfl
      rw[World.size_alloc]at this
      exact this
     refine wpAnyH_ready (rs:=[2]) (by kernel_rfl) (by simp) (AllReadyH.cons rfl (fun K hK=> ?_) AllReadyH.nil)
     rw[if_pos (by rfl)]
     refine wp_append_own _ (.tmp 47) (.tmp 48) 24 rfl w4.heap.size 37 i0 (.agg #[.slice none 0 0,.bool false]) 2 32 Tryz.underlying24 hi hz0 hz1 hz2 rfl (by decide) (.slice (some ⟨w4.heap.size+1,0,none⟩) 0 0) 0 [] rfl (oB) ad acc.length c vs rfl HVL.out (HVC.out _ (hB)) HV1.out (by unfold maxLen;omega) (by omega) (hB).size ?_
     intro v49 wq o49 g49 _
     rw[Nat.zero_add,List.nil_append]at o49
     have hq:=(hB).grown g49 (hB).size (fun k hk=>((oB).lt k hk).1)
     have tq:=tB.grown (C:=w4.heap.size+1) g49 (by show w4.heap.size≠_;omega)
     refine hK.out _ _ hq (fun h3=> ?_)
     clear hK K h3
     refine wpAnyH_ready (rs:=[5]) (by kernel_rfl) (by simp) (AllReadyH.cons rfl (fun K hK=> ?_) AllReadyH.nil)
     rw[if_pos (by rfl)]
     refine wp_append_own _ (.tmp 49) (.tmp 51) 24 rfl w4.heap.size 37 i0 (.agg #[.slice none 0 0,.bool false]) 2 32 Tryz.underlying24 hi hz0 hz1 hz2 rfl (by decide) v49 acc.length vs rfl (o49) ⟨w4.drew.heap.size,0,none⟩ 1 1 [.slice pao L.length pcap,.bool bx] rfl rfl (fun j u hj=>by rw[Addr.add_lit,Nat.zero_add];exact (tq).1 j u hj) (by intro u hu;simp at hu;rcases hu with rfl|rfl<;>rfl) (by unfold maxLen;omega) (by omega) (hq).size ?_
     intro v52 w5 o52 g52 _
     have h5:=(hq).grown g52 (hq).size (fun k hk=>((o49).lt k hk).1)
     refine hK.out _ _ h5 (fun h6=> ?_)
     clear hK K
     refine wpAnyH_take (i:=6) (v:= ?_) rfl (by kernel_rfl) (by kernel_rfl) (by kernel_rfl) (fun _ _ _ h=>h) (Or.inl ⟨by rfl,fun W hW=> ?_⟩) h6 ?_
     rotate_left
     ·clear hW
      go_simp
      try with_reducible rfl
     refine wpAnyH_done (by kernel_rfl) ?_ _
     have O5:=hidden o52
     have H5:=hidden h5
     clear o52 h5 h6 g52
     simp only[Act.put,List.getElem_toArray,List.getElem_cons_zero,List.getElem_cons_succ,List.setIfInBounds_toArray,List.set_cons_zero,List.set_cons_succ]
     (try clear oB);(try clear hB);(try clear tB);(try clear tq);clear o49 g49 hq
     obtain ⟨g5,c5,rfl⟩: ∃g5 c5,v52=.slice (some ⟨g5,0,none⟩) (acc.length+1) c5:=by
      rcases O5.out.2 with ⟨_,h⟩|⟨g5,c5,cur,h,_⟩
      ·omega
      exact ⟨g5,c5,h⟩
     have O6:Hid (w5.ownsRow w.heap.size 37 2 (.slice (some ⟨g5,0,none⟩) (acc.length+1) c5) (acc++[rr]).length (vs++[.slice pao L.length pcap,.bool bx])):=by
      have:=own_wide0 O5.out hw4
      rw[List.length_append]
      exact this
     have I6:Hid (InRules w5 w.heap.size (vs++[.slice pao L.length pcap,.bool bx]) (acc++[rr])):=by
      rw[HX2.out]
      exact (H4.out.2.below H5.out).snoc (r:=⟨L,bx⟩) HVL.out (S4.out.below H5.out) HPB.out
     have HA7:Hid (Apart g5 (vs++[.slice pao L.length pcap,.bool bx]) (acc++[rr])):=by
      rw[HX2.out]
      exact Apart.new (H4.out.2.snoc (r:=⟨L,bx⟩) HVL.out S4.out HPB.out) (O5.out.lt g5 rfl).1
     have B6:=B4.trans (H5.out.mono B4.size)
     have hal:(acc++[rr]).length=acc.length+1:=by simp
     have HS6:Hid (RSz (acc++[rr])):=fun r hr=>by
      rcases List.mem_append.1 hr with h|h
      ·exact rules_sz HB.out r h
      rw[List.mem_singleton.1 h,HX2.out]
      exact HLS.out
     have CR:Hid (CB 42 #[.slice (some ⟨g5,0,none⟩) (acc.length+1) c5] w5 (.bool (rulesB (acc++[rr])))):=specRulesOk (acc++[rr]) _ w5 (by omega) HS6.out (RuleRow.of_own O6.out I6.out.cells)
     clear O5 H5 HS6
     cases hrb:rulesB (acc++[rr])with
     |false=>
      have hE:=HF.out
      rw[hrb,if_neg (by decide)]at hE
      rw[hrb]at CR
      clear hrb HF O6 I6
      subst hE
      go_wp2_with fail
      refine CR.out.mono ?_
      rintro e w6 ⟨rfl,b6⟩
      have B7:=(B6.trans (b6.mono B6.size)).alloc (B6.trans (b6.mono B6.size)).size (.cells #[] 37)
      have o7:=World.ownsRow_made (e:=37) (size:=2) (base:=w.heap.size) w6 #[] 0 (by have:=(B6.trans (b6.mono B6.size)).size;have:=B1.out.size;omega) (by decide) rfl
      clear b6 B6
      go_wp2_with fail
      go_ret2
      exact ⟨_,rfl,⟨[],_,_,rfl,o7,(fun i hi=>absurd hi (Nat.not_lt_zero _)),Apart.nil _ _⟩,B1.out.trans (B7.mono B1.out.size)⟩
     |true=>
      have hE:=HF.out
      rw[if_pos hrb]at hE
      have HF7:=hidden hE
      have HB7:=hidden hrb
      rw[hrb]at CR
      clear hrb HF hE
      go_wp2_with fail
      refine CR.out.mono ?_
      rintro e w6 ⟨rfl,b6⟩
      have B7:=B6.trans (b6.mono B6.size)
      have R7:Hid (w6.ownsRow w.heap.size 37 2 (.slice (some ⟨g5,0,none⟩) (acc.length+1) c5) (acc++[rr]).length (vs++[.slice pao L.length pcap,.bool bx])∧InRules w6 w.heap.size (vs++[.slice pao L.length pcap,.bool bx]) (acc++[rr])):=⟨own_below O6.out b6,I6.out.below b6⟩
      clear b6 B6 O6 I6 CR
      go_wp2_with fail
      go_roundw
      case rel=>exact ⟨k+1,acc++[rr],_,_,_,by omega,by go_num,by rw[hal],R7,HF7,HB7,HA7,B7⟩
      case measure=>simp[intOf];omega
    have HVL:Hid (vs.length=acc.length*2):=HR2.out.1.1
    have HV1:Hid (∀u∈vs,u.oneCell'=true):=HR2.out.2.one HR2.out.1.1
    have h60:=rules_60 HB.out
    have hw1:w.heap.size≤w2.heap.size:=by have:=B1.out.size;have:=B2.size;omega
    have CP:Hid (Calls Tryz.prog 62 #[.string (t.extract 1 t.size)] (w2.alloc (.cells #[.slice none 0 0,.bool true] 37)) fun e w'=> ∃v,e=.returned v∧w'.ownsRow (w2.alloc (.cells #[.slice none 0 0,.bool true] 37)).heap.size 9 1 v (partsL (t.extract 1 t.size)).length (scells (partsL (t.extract 1 t.size)))∧Below (w2.alloc (.cells #[.slice none 0 0,.bool true] 37)).heap.size (w2.alloc (.cells #[.slice none 0 0,.bool true] 37)) w'):=specParts (t.extract 1 t.size) _ hex
    have HLS:Hid ((partsL (t.extract 1 t.size)).length≤2097152∧ ∀x∈partsL (t.extract 1 t.size),x.size≤1048576):=⟨by have:=parts_most (t.extract 1 t.size);omega,fun x hx=>by have:=parts_sizes (t.extract 1 t.size) x hx;omega⟩
    generalize partsL (t.extract 1 t.size)=L at CP HX HLS
    have BA:BAt (w2.alloc (.cells #[.slice none 0 0,.bool true] 37)) w2.heap.size [.slice none 0 0,.bool true]:=BAt.new w2 #[.slice none 0 0,.bool true] _
    have bA:Below w2.heap.size w2 (w2.alloc (.cells #[.slice none 0 0,.bool true] 37)):=(Below.refl _ _).alloc (Nat.le_refl _) _
    go_upto_region 12 with fail
    go_wp2_with fail
    refine CP.out.mono ?_
    rintro e w3 ⟨p,rfl,op,b3⟩
    have A3:=BA.below b3
    have b23:=bA.trans (b3.mono bA.size)
    have b24:=b23.setCell (p:=⟨w2.heap.size,0,none⟩) (Nat.le_refl _) p
    have A4:=hidden (A3.set 0 (by decide) p)
    have S4:=hidden (StrRow.of_own (own_put op (C:=w2.heap.size) (by simp) 0 p))
    have f3:=A3.2.1
    have c30:=A3.1 0 _ rfl
    obtain ⟨pao,pcap,rfl⟩:=(StrRow.of_own op).slice
    have HPB:Hid (∀b,(Value.slice pao L.length pcap).ownBlock=some b→w.heap.size≤b):=fun b hb=>by have:=(op.lt b hb).1;have h2:=bA.size;omega
    have B4:=B2.trans (b24.mono B2.size)
    have H4:Hid ((w3.setCell ⟨w2.heap.size,0,none⟩ (.slice pao L.length pcap)).ownsRow w.heap.size 37 2 (.slice (some ad) acc.length c) acc.length vs∧InRules (w3.setCell ⟨w2.heap.size,0,none⟩ (.slice pao L.length pcap)) w.heap.size vs acc):=⟨own_below HR2.out.1 b24,HR2.out.2.below b24⟩
    clear CP BA bA op b3 A3 b23 b24 HR2 B2
    go_upto_region 13 with fail
    obtain ⟨bx,hbx⟩: ∃b:Bool,b=true:=⟨_,rfl⟩
    rw[←hbx]at A4
    have HX2:Hid (rr=⟨L,bx⟩):=by show _=_;rw[hbx];exact HX.out
    clear HX hbx
    have hD4:=A4.out.2.2
    generalize w3.setCell ⟨w2.heap.size,0,none⟩ (.slice pao L.length pcap)=w4 at A4 S4 B4 H4 hD4⊢
    generalize w2.heap.size=D at A4 hD4 hw1⊢
    clear f3 c30
    have hw4:w.heap.size≤w4.heap.size:=by omega
    have HVC:Hid (∀W,Below w4.heap.size w4 W→ ∀j u,vs[j]? =some u→W.cell? (ad.add j)=some u):=fun W hb j u hj=>own_cellsA (own_below H4.out.1 hb) hj
    refine wp_region_held_drew (S:=fun W=>Below w4.heap.size w4 W) (by kernel_rfl) (Below.refl _ w4).drew (fun h0=> ?_)
    refine wpAnyH_take (i:=1) (v:= ?_) rfl (by kernel_rfl) (by kernel_rfl) (by kernel_rfl) (fun _ _ _ h=>h) (Or.inl ⟨by rfl,fun W hW=> ?_⟩) h0 ?_
    rotate_left
    ·clear hW
     go_simp
     try with_reducible rfl
    simp only[Act.put,List.getElem_toArray,List.getElem_cons_zero,List.getElem_cons_succ,List.setIfInBounds_toArray,List.set_cons_zero,List.set_cons_succ]
    refine wpAnyH_take (i:=3) (v:=.agg #[.slice pao L.length pcap,.bool bx]) rfl (by kernel_rfl) (by kernel_rfl) (by kernel_rfl) (fun _ _ _ h=>h) (Or.inl ⟨by rfl,fun W hW=> ?_⟩) h0 ?_
    ·have q0:=(A4.out.below hW).1 0 _ rfl
     have q1:=(A4.out.below hW).1 1 _ rfl
     go_simp
    simp only[Act.put,List.getElem_toArray,List.getElem_cons_zero,List.getElem_cons_succ,List.setIfInBounds_toArray,List.set_cons_zero,List.set_cons_succ]
    refine wpAnyH_ready (rs:=[0,4]) (by kernel_rfl) (by simp) (AllReadyH.cons rfl (fun K hK=> ?_) (AllReadyH.cons rfl (fun K hK=> ?_) AllReadyH.nil))
    ·go_simp
     refine hK.out _ _ (h0.alloc h0.size _) (fun h1=> ?_)
     clear hK K h1
     have o47:=hidden (World.ownsRow_made (e:=37) (size:=2) (base:=w4.heap.size) w4.drew #[] 0 (Nat.le_refl _) (by decide) rfl)
     have h1:Below w4.heap.size w4 (w4.drew.alloc (.cells #[] 37)):=h0.alloc h0.size _
     refine wpAnyH_ready (rs:=[2,4]) (by kernel_rfl) (by simp) (AllReadyH.cons rfl (fun K hK=> ?_) (AllReadyH.cons rfl (fun K hK=> ?_) AllReadyH.nil))
     ·rw[if_pos (by rfl)]
      refine wp_append_own _ (.tmp 47) (.tmp 48) 24 rfl w4.heap.size 37 i0 (.agg #[.slice none 0 0,.bool false]) 2 32 Tryz.underlying24 hi hz0 hz1 hz2 rfl (by decide) (.slice (some ⟨w4.drew.heap.size,0,none⟩) 0 0) 0 [] rfl (o47.out) ad acc.length c vs rfl HVL.out (HVC.out _ (h1)) HV1.out (by unfold maxLen;omega) (by omega) (h1).size ?_
      intro v49 wq o49 g49 _
      rw[Nat.zero_add,List.nil_append]at o49
      have hq:=(h1).grown g49 (h1).size (fun k hk=>((o47.out).lt k hk).1)
      refine hK.out _ _ hq (fun h3=> ?_)
      clear hK K h3
      refine wpAnyH_ready (rs:=[4]) (by kernel_rfl) (by simp) (AllReadyH.cons rfl (fun K hK=> ?_) AllReadyH.nil)
      go_simp
      refine hK.out _ _ (hq.alloc hq.size _) (fun h3=> ?_)
      clear hK K
      refine wpAnyH_ready (rs:=[5]) (by kernel_rfl) (by simp) (AllReadyH.cons rfl (fun K hK=> ?_) AllReadyH.nil)
      have oB:=o49.alloc (.cells #[.slice pao L.length pcap,.bool bx] 37)
      have hB:=hq.alloc hq.size (.cells #[.slice pao L.length pcap,.bool bx] 37)
      have tB:=BAt.new wq #[.slice pao L.length pcap,.bool bx] 37
      rw[if_pos (by rfl)]
      refine wp_append_own _ (.tmp 49) (.tmp 51) 24 rfl w4.heap.size 37 i0 (.agg #[.slice none 0 0,.bool false]) 2 32 Tryz.underlying24 hi hz0 hz1 hz2 rfl (by decide) v49 acc.length vs rfl (oB) ⟨wq.heap.size,0,none⟩ 1 1 [.slice pao L.length pcap,.bool bx] rfl rfl (fun j u hj=>by rw[Addr.add_lit,Nat.zero_add];exact (tB).1 j u hj) (by intro u hu;simp at hu;rcases hu with rfl|rfl<;>rfl) (by unfold maxLen;omega) (by omega) (hB).size ?_
      intro v52 w5 o52 g52 _
      have h5:=(hB).grown g52 (hB).size (fun k hk=>((oB).lt k hk).1)
      refine hK.out _ _ h5 (fun h6=> ?_)
      clear hK K
      refine wpAnyH_take (i:=6) (v:= ?_) rfl (by kernel_rfl) (by kernel_rfl) (by kernel_rfl) (fun _ _ _ h=>h) (Or.inl ⟨by rfl,fun W hW=> ?_⟩) h6 ?_
      rotate_left
      ·clear hW
       go_simp
       try with_reducible rfl
      refine wpAnyH_done (by kernel_rfl) ?_ _
      have O5:=hidden o52
      have H5:=hidden h5
      clear o52 h5 h6 g52
      simp only[Act.put,List.getElem_toArray,List.getElem_cons_zero,List.getElem_cons_succ,List.setIfInBounds_toArray,List.set_cons_zero,List.set_cons_succ]
      (try clear oB);(try clear hB);(try clear tB);(try clear tq);clear o49 g49 hq
      obtain ⟨g5,c5,rfl⟩: ∃g5 c5,v52=.slice (some ⟨g5,0,none⟩) (acc.length+1) c5:=by
       rcases O5.out.2 with ⟨_,h⟩|⟨g5,c5,cur,h,_⟩
       ·omega
       exact ⟨g5,c5,h⟩
      have O6:Hid (w5.ownsRow w.heap.size 37 2 (.slice (some ⟨g5,0,none⟩) (acc.length+1) c5) (acc++[rr]).length (vs++[.slice pao L.length pcap,.bool bx])):=by
       have:=own_wide0 O5.out hw4
       rw[List.length_append]
       exact this
      have I6:Hid (InRules w5 w.heap.size (vs++[.slice pao L.length pcap,.bool bx]) (acc++[rr])):=by
       rw[HX2.out]
       exact (H4.out.2.below H5.out).snoc (r:=⟨L,bx⟩) HVL.out (S4.out.below H5.out) HPB.out
      have HA7:Hid (Apart g5 (vs++[.slice pao L.length pcap,.bool bx]) (acc++[rr])):=by
       rw[HX2.out]
       exact Apart.new (H4.out.2.snoc (r:=⟨L,bx⟩) HVL.out S4.out HPB.out) (O5.out.lt g5 rfl).1
      have B6:=B4.trans (H5.out.mono B4.size)
      have hal:(acc++[rr]).length=acc.length+1:=by simp
      have HS6:Hid (RSz (acc++[rr])):=fun r hr=>by
       rcases List.mem_append.1 hr with h|h
       ·exact rules_sz HB.out r h
       rw[List.mem_singleton.1 h,HX2.out]
       exact HLS.out
      have CR:Hid (CB 42 #[.slice (some ⟨g5,0,none⟩) (acc.length+1) c5] w5 (.bool (rulesB (acc++[rr])))):=specRulesOk (acc++[rr]) _ w5 (by omega) HS6.out (RuleRow.of_own O6.out I6.out.cells)
      clear O5 H5 HS6
      cases hrb:rulesB (acc++[rr])with
      |false=>
       have hE:=HF.out
       rw[hrb,if_neg (by decide)]at hE
       rw[hrb]at CR
       clear hrb HF O6 I6
       subst hE
       go_wp2_with fail
       refine CR.out.mono ?_
       rintro e w6 ⟨rfl,b6⟩
       have B7:=(B6.trans (b6.mono B6.size)).alloc (B6.trans (b6.mono B6.size)).size (.cells #[] 37)
       have o7:=World.ownsRow_made (e:=37) (size:=2) (base:=w.heap.size) w6 #[] 0 (by have:=(B6.trans (b6.mono B6.size)).size;have:=B1.out.size;omega) (by decide) rfl
       clear b6 B6
       go_wp2_with fail
       go_ret2
       exact ⟨_,rfl,⟨[],_,_,rfl,o7,(fun i hi=>absurd hi (Nat.not_lt_zero _)),Apart.nil _ _⟩,B1.out.trans (B7.mono B1.out.size)⟩
      |true=>
       have hE:=HF.out
       rw[if_pos hrb]at hE
       have HF7:=hidden hE
       have HB7:=hidden hrb
       rw[hrb]at CR
       clear hrb HF hE
       go_wp2_with fail
       refine CR.out.mono ?_
       rintro e w6 ⟨rfl,b6⟩
       have B7:=B6.trans (b6.mono B6.size)
       have R7:Hid (w6.ownsRow w.heap.size 37 2 (.slice (some ⟨g5,0,none⟩) (acc.length+1) c5) (acc++[rr]).length (vs++[.slice pao L.length pcap,.bool bx])∧InRules w6 w.heap.size (vs++[.slice pao L.length pcap,.bool bx]) (acc++[rr])):=⟨own_below O6.out b6,I6.out.below b6⟩
       clear b6 B6 O6 I6 CR
       go_wp2_with fail
       go_roundw
       case rel=>exact ⟨k+1,acc++[rr],_,_,_,by omega,by go_num,by rw[hal],R7,HF7,HB7,HA7,B7⟩
       case measure=>simp[intOf];omega
     go_simp
     refine hK.out _ _ (h1.alloc h1.size _) (fun h3=> ?_)
     clear hK K h3
     have oB:=o47.out.alloc (.cells #[.slice pao L.length pcap,.bool bx] 37)
     have hB:=h1.alloc h1.size (.cells #[.slice pao L.length pcap,.bool bx] 37)
     have tB:BAt ((w4.drew.alloc (.cells #[] 37)).alloc (.cells #[.slice pao L.length pcap,.bool bx] 37)) (w4.heap.size+1) [.slice pao L.length pcap,.bool bx]:=by
      have:=BAt.new (w4.drew.alloc (.cells #[] 37)) #[.slice pao L.length pcap,.bool bx] 37
      rw[World.size_alloc]at this
      exact this
     refine wpAnyH_ready (rs:=[2]) (by kernel_rfl) (by simp) (AllReadyH.cons rfl (fun K hK=> ?_) AllReadyH.nil)
     rw[if_pos (by rfl)]
     refine wp_append_own _ (.tmp 47) (.tmp 48) 24 rfl w4.heap.size 37 i0 (.agg #[.slice none 0 0,.bool false]) 2 32 Tryz.underlying24 hi hz0 hz1 hz2 rfl (by decide) (.slice (some ⟨w4.drew.heap.size,0,none⟩) 0 0) 0 [] rfl (oB) ad acc.length c vs rfl HVL.out (HVC.out _ (hB)) HV1.out (by unfold maxLen;omega) (by omega) (hB).size ?_
     intro v49 wq o49 g49 _
     rw[Nat.zero_add,List.nil_append]at o49
     have hq:=(hB).grown g49 (hB).size (fun k hk=>((oB).lt k hk).1)
     have tq:=tB.grown (C:=w4.heap.size) g49 (by omega)
     refine hK.out _ _ hq (fun h3=> ?_)
     clear hK K h3
     refine wpAnyH_ready (rs:=[5]) (by kernel_rfl) (by simp) (AllReadyH.cons rfl (fun K hK=> ?_) AllReadyH.nil)
     rw[if_pos (by rfl)]
     refine wp_append_own _ (.tmp 49) (.tmp 51) 24 rfl w4.heap.size 37 i0 (.agg #[.slice none 0 0,.bool false]) 2 32 Tryz.underlying24 hi hz0 hz1 hz2 rfl (by decide) v49 acc.length vs rfl (o49) ⟨(w4.heap.size+1),0,none⟩ 1 1 [.slice pao L.length pcap,.bool bx] rfl rfl (fun j u hj=>by rw[Addr.add_lit,Nat.zero_add];exact (tq).1 j u hj) (by intro u hu;simp at hu;rcases hu with rfl|rfl<;>rfl) (by unfold maxLen;omega) (by omega) (hq).size ?_
     intro v52 w5 o52 g52 _
     have h5:=(hq).grown g52 (hq).size (fun k hk=>((o49).lt k hk).1)
     refine hK.out _ _ h5 (fun h6=> ?_)
     clear hK K
     refine wpAnyH_take (i:=6) (v:= ?_) rfl (by kernel_rfl) (by kernel_rfl) (by kernel_rfl) (fun _ _ _ h=>h) (Or.inl ⟨by rfl,fun W hW=> ?_⟩) h6 ?_
     rotate_left
     ·clear hW
      go_simp
      try with_reducible rfl
     refine wpAnyH_done (by kernel_rfl) ?_ _
     have O5:=hidden o52
     have H5:=hidden h5
     clear o52 h5 h6 g52
     simp only[Act.put,List.getElem_toArray,List.getElem_cons_zero,List.getElem_cons_succ,List.setIfInBounds_toArray,List.set_cons_zero,List.set_cons_succ]
     (try clear oB);(try clear hB);(try clear tB);(try clear tq);clear o49 g49 hq
     obtain ⟨g5,c5,rfl⟩: ∃g5 c5,v52=.slice (some ⟨g5,0,none⟩) (acc.length+1) c5:=by
      rcases O5.out.2 with ⟨_,h⟩|⟨g5,c5,cur,h,_⟩
      ·omega
      exact ⟨g5,c5,h⟩
     have O6:Hid (w5.ownsRow w.heap.size 37 2 (.slice (some ⟨g5,0,none⟩) (acc.length+1) c5) (acc++[rr]).length (vs++[.slice pao L.length pcap,.bool bx])):=by
      have:=own_wide0 O5.out hw4
      rw[List.length_append]
      exact this
     have I6:Hid (InRules w5 w.heap.size (vs++[.slice pao L.length pcap,.bool bx]) (acc++[rr])):=by
      rw[HX2.out]
      exact (H4.out.2.below H5.out).snoc (r:=⟨L,bx⟩) HVL.out (S4.out.below H5.out) HPB.out
     have HA7:Hid (Apart g5 (vs++[.slice pao L.length pcap,.bool bx]) (acc++[rr])):=by
      rw[HX2.out]
      exact Apart.new (H4.out.2.snoc (r:=⟨L,bx⟩) HVL.out S4.out HPB.out) (O5.out.lt g5 rfl).1
     have B6:=B4.trans (H5.out.mono B4.size)
     have hal:(acc++[rr]).length=acc.length+1:=by simp
     have HS6:Hid (RSz (acc++[rr])):=fun r hr=>by
      rcases List.mem_append.1 hr with h|h
      ·exact rules_sz HB.out r h
      rw[List.mem_singleton.1 h,HX2.out]
      exact HLS.out
     have CR:Hid (CB 42 #[.slice (some ⟨g5,0,none⟩) (acc.length+1) c5] w5 (.bool (rulesB (acc++[rr])))):=specRulesOk (acc++[rr]) _ w5 (by omega) HS6.out (RuleRow.of_own O6.out I6.out.cells)
     clear O5 H5 HS6
     cases hrb:rulesB (acc++[rr])with
     |false=>
      have hE:=HF.out
      rw[hrb,if_neg (by decide)]at hE
      rw[hrb]at CR
      clear hrb HF O6 I6
      subst hE
      go_wp2_with fail
      refine CR.out.mono ?_
      rintro e w6 ⟨rfl,b6⟩
      have B7:=(B6.trans (b6.mono B6.size)).alloc (B6.trans (b6.mono B6.size)).size (.cells #[] 37)
      have o7:=World.ownsRow_made (e:=37) (size:=2) (base:=w.heap.size) w6 #[] 0 (by have:=(B6.trans (b6.mono B6.size)).size;have:=B1.out.size;omega) (by decide) rfl
      clear b6 B6
      go_wp2_with fail
      go_ret2
      exact ⟨_,rfl,⟨[],_,_,rfl,o7,(fun i hi=>absurd hi (Nat.not_lt_zero _)),Apart.nil _ _⟩,B1.out.trans (B7.mono B1.out.size)⟩
     |true=>
      have hE:=HF.out
      rw[if_pos hrb]at hE
      have HF7:=hidden hE
      have HB7:=hidden hrb
      rw[hrb]at CR
      clear hrb HF hE
      go_wp2_with fail
      refine CR.out.mono ?_
      rintro e w6 ⟨rfl,b6⟩
      have B7:=B6.trans (b6.mono B6.size)
      have R7:Hid (w6.ownsRow w.heap.size 37 2 (.slice (some ⟨g5,0,none⟩) (acc.length+1) c5) (acc++[rr]).length (vs++[.slice pao L.length pcap,.bool bx])∧InRules w6 w.heap.size (vs++[.slice pao L.length pcap,.bool bx]) (acc++[rr])):=⟨own_below O6.out b6,I6.out.below b6⟩
      clear b6 B6 O6 I6 CR
      go_wp2_with fail
      go_roundw
      case rel=>exact ⟨k+1,acc++[rr],_,_,_,by omega,by go_num,by rw[hal],R7,HF7,HB7,HA7,B7⟩
      case measure=>simp[intOf];omega
    go_simp
    refine hK.out _ _ (h0.alloc h0.size _) (fun h1=> ?_)
    clear hK K h1
    have h1:=h0.alloc h0.size (.cells #[.slice pao L.length pcap,.bool bx] 37)
    have t1:=BAt.new w4.drew #[.slice pao L.length pcap,.bool bx] 37
    refine wpAnyH_ready (rs:=[0]) (by kernel_rfl) (by simp) (AllReadyH.cons rfl (fun K hK=> ?_) AllReadyH.nil)
    go_simp
    refine hK.out _ _ (h1.alloc h1.size _) (fun h3=> ?_)
    clear hK K h3
    have hB:=h1.alloc h1.size (.cells #[] 37)
    have tB:=t1.alloc (.cells #[] 37)
    have oB:((w4.drew.alloc (.cells #[.slice pao L.length pcap,.bool bx] 37)).alloc (.cells #[] 37)).ownsRow w4.heap.size 37 2 (.slice (some ⟨w4.heap.size+1,0,none⟩) 0 0) 0 []:=by
     have:=World.ownsRow_made (e:=37) (size:=2) (base:=w4.heap.size) (w4.drew.alloc (.cells #[.slice pao L.length pcap,.bool bx] 37)) #[] 0 (by simp) (by decide) rfl
     rw[World.size_alloc]at this
     exact this
    refine wpAnyH_ready (rs:=[2]) (by kernel_rfl) (by simp) (AllReadyH.cons rfl (fun K hK=> ?_) AllReadyH.nil)
    rw[if_pos (by rfl)]
    refine wp_append_own _ (.tmp 47) (.tmp 48) 24 rfl w4.heap.size 37 i0 (.agg #[.slice none 0 0,.bool false]) 2 32 Tryz.underlying24 hi hz0 hz1 hz2 rfl (by decide) (.slice (some ⟨w4.heap.size+1,0,none⟩) 0 0) 0 [] rfl (oB) ad acc.length c vs rfl HVL.out (HVC.out _ (hB)) HV1.out (by unfold maxLen;omega) (by omega) (hB).size ?_
    intro v49 wq o49 g49 _
    rw[Nat.zero_add,List.nil_append]at o49
    have hq:=(hB).grown g49 (hB).size (fun k hk=>((oB).lt k hk).1)
    have tq:=tB.grown (C:=w4.heap.size+1) g49 (by show w4.heap.size≠_;omega)
    refine hK.out _ _ hq (fun h3=> ?_)
    clear hK K h3
    refine wpAnyH_ready (rs:=[5]) (by kernel_rfl) (by simp) (AllReadyH.cons rfl (fun K hK=> ?_) AllReadyH.nil)
    rw[if_pos (by rfl)]
    refine wp_append_own _ (.tmp 49) (.tmp 51) 24 rfl w4.heap.size 37 i0 (.agg #[.slice none 0 0,.bool false]) 2 32 Tryz.underlying24 hi hz0 hz1 hz2 rfl (by decide) v49 acc.length vs rfl (o49) ⟨w4.drew.heap.size,0,none⟩ 1 1 [.slice pao L.length pcap,.bool bx] rfl rfl (fun j u hj=>by rw[Addr.add_lit,Nat.zero_add];exact (tq).1 j u hj) (by intro u hu;simp at hu;rcases hu with rfl|rfl<;>rfl) (by unfold maxLen;omega) (by omega) (hq).size ?_
    intro v52 w5 o52 g52 _
    have h5:=(hq).grown g52 (hq).size (fun k hk=>((o49).lt k hk).1)
    refine hK.out _ _ h5 (fun h6=> ?_)
    clear hK K
    refine wpAnyH_take (i:=6) (v:= ?_) rfl (by kernel_rfl) (by kernel_rfl) (by kernel_rfl) (fun _ _ _ h=>h) (Or.inl ⟨by rfl,fun W hW=> ?_⟩) h6 ?_
    rotate_left
    ·clear hW
     go_simp
     try with_reducible rfl
    refine wpAnyH_done (by kernel_rfl) ?_ _
    have O5:=hidden o52
    have H5:=hidden h5
    clear o52 h5 h6 g52
    simp only[Act.put,List.getElem_toArray,List.getElem_cons_zero,List.getElem_cons_succ,List.setIfInBounds_toArray,List.set_cons_zero,List.set_cons_succ]
    (try clear oB);(try clear hB);(try clear tB);(try clear tq);clear o49 g49 hq
    obtain ⟨g5,c5,rfl⟩: ∃g5 c5,v52=.slice (some ⟨g5,0,none⟩) (acc.length+1) c5:=by
     rcases O5.out.2 with ⟨_,h⟩|⟨g5,c5,cur,h,_⟩
     ·omega
     exact ⟨g5,c5,h⟩
    have O6:Hid (w5.ownsRow w.heap.size 37 2 (.slice (some ⟨g5,0,none⟩) (acc.length+1) c5) (acc++[rr]).length (vs++[.slice pao L.length pcap,.bool bx])):=by
     have:=own_wide0 O5.out hw4
     rw[List.length_append]
     exact this
    have I6:Hid (InRules w5 w.heap.size (vs++[.slice pao L.length pcap,.bool bx]) (acc++[rr])):=by
     rw[HX2.out]
     exact (H4.out.2.below H5.out).snoc (r:=⟨L,bx⟩) HVL.out (S4.out.below H5.out) HPB.out
    have HA7:Hid (Apart g5 (vs++[.slice pao L.length pcap,.bool bx]) (acc++[rr])):=by
     rw[HX2.out]
     exact Apart.new (H4.out.2.snoc (r:=⟨L,bx⟩) HVL.out S4.out HPB.out) (O5.out.lt g5 rfl).1
    have B6:=B4.trans (H5.out.mono B4.size)
    have hal:(acc++[rr]).length=acc.length+1:=by simp
    have HS6:Hid (RSz (acc++[rr])):=fun r hr=>by
     rcases List.mem_append.1 hr with h|h
     ·exact rules_sz HB.out r h
     rw[List.mem_singleton.1 h,HX2.out]
     exact HLS.out
    have CR:Hid (CB 42 #[.slice (some ⟨g5,0,none⟩) (acc.length+1) c5] w5 (.bool (rulesB (acc++[rr])))):=specRulesOk (acc++[rr]) _ w5 (by omega) HS6.out (RuleRow.of_own O6.out I6.out.cells)
    clear O5 H5 HS6
    cases hrb:rulesB (acc++[rr])with
    |false=>
     have hE:=HF.out
     rw[hrb,if_neg (by decide)]at hE
     rw[hrb]at CR
     clear hrb HF O6 I6
     subst hE
     go_wp2_with fail
     refine CR.out.mono ?_
     rintro e w6 ⟨rfl,b6⟩
     have B7:=(B6.trans (b6.mono B6.size)).alloc (B6.trans (b6.mono B6.size)).size (.cells #[] 37)
     have o7:=World.ownsRow_made (e:=37) (size:=2) (base:=w.heap.size) w6 #[] 0 (by have:=(B6.trans (b6.mono B6.size)).size;have:=B1.out.size;omega) (by decide) rfl
     clear b6 B6
     go_wp2_with fail
     go_ret2
     exact ⟨_,rfl,⟨[],_,_,rfl,o7,(fun i hi=>absurd hi (Nat.not_lt_zero _)),Apart.nil _ _⟩,B1.out.trans (B7.mono B1.out.size)⟩
    |true=>
     have hE:=HF.out
     rw[if_pos hrb]at hE
     have HF7:=hidden hE
     have HB7:=hidden hrb
     rw[hrb]at CR
     clear hrb HF hE
     go_wp2_with fail
     refine CR.out.mono ?_
     rintro e w6 ⟨rfl,b6⟩
     have B7:=B6.trans (b6.mono B6.size)
     have R7:Hid (w6.ownsRow w.heap.size 37 2 (.slice (some ⟨g5,0,none⟩) (acc.length+1) c5) (acc++[rr]).length (vs++[.slice pao L.length pcap,.bool bx])∧InRules w6 w.heap.size (vs++[.slice pao L.length pcap,.bool bx]) (acc++[rr])):=⟨own_below O6.out b6,I6.out.below b6⟩
     clear b6 B6 O6 I6 CR
     go_wp2_with fail
     go_roundw
     case rel=>exact ⟨k+1,acc++[rr],_,_,_,by omega,by go_num,by rw[hal],R7,HF7,HB7,HA7,B7⟩
     case measure=>simp[intOf];omega
   rw[if_neg h33]at HX
   have h33i:((d:Int)==33)=false:=beq_eq_false_iff_ne.2 (by omega)
   have hex:t.size≤1048576:=by omega
   rcases h7 with ⟨h1i,h2⟩|h1i
   ·have HVL:Hid (vs.length=acc.length*2):=HR2.out.1.1
    have HV1:Hid (∀u∈vs,u.oneCell'=true):=HR2.out.2.one HR2.out.1.1
    have h60:=rules_60 HB.out
    have hw1:w.heap.size≤w2.heap.size:=by have:=B1.out.size;have:=B2.size;omega
    have CP:Hid (Calls Tryz.prog 62 #[.string t] (w2.alloc (.cells #[.slice none 0 0,.bool false] 37)) fun e w'=> ∃v,e=.returned v∧w'.ownsRow (w2.alloc (.cells #[.slice none 0 0,.bool false] 37)).heap.size 9 1 v (partsL t).length (scells (partsL t))∧Below (w2.alloc (.cells #[.slice none 0 0,.bool false] 37)).heap.size (w2.alloc (.cells #[.slice none 0 0,.bool false] 37)) w'):=specParts t _ hex
    have HLS:Hid ((partsL t).length≤2097152∧ ∀x∈partsL t,x.size≤1048576):=⟨by have:=parts_most t;omega,fun x hx=>by have:=parts_sizes t x hx;omega⟩
    generalize partsL t=L at CP HX HLS
    have BA:BAt (w2.alloc (.cells #[.slice none 0 0,.bool false] 37)) w2.heap.size [.slice none 0 0,.bool false]:=BAt.new w2 #[.slice none 0 0,.bool false] _
    have bA:Below w2.heap.size w2 (w2.alloc (.cells #[.slice none 0 0,.bool false] 37)):=(Below.refl _ _).alloc (Nat.le_refl _) _
    go_upto_region 12 with fail
    go_wp2_with fail
    refine CP.out.mono ?_
    rintro e w3 ⟨p,rfl,op,b3⟩
    have A3:=BA.below b3
    have b23:=bA.trans (b3.mono bA.size)
    have b24:=b23.setCell (p:=⟨w2.heap.size,0,none⟩) (Nat.le_refl _) p
    have A4:=hidden (A3.set 0 (by decide) p)
    have S4:=hidden (StrRow.of_own (own_put op (C:=w2.heap.size) (by simp) 0 p))
    have f3:=A3.2.1
    have c30:=A3.1 0 _ rfl
    obtain ⟨pao,pcap,rfl⟩:=(StrRow.of_own op).slice
    have HPB:Hid (∀b,(Value.slice pao L.length pcap).ownBlock=some b→w.heap.size≤b):=fun b hb=>by have:=(op.lt b hb).1;have h2:=bA.size;omega
    have B4:=B2.trans (b24.mono B2.size)
    have H4:Hid ((w3.setCell ⟨w2.heap.size,0,none⟩ (.slice pao L.length pcap)).ownsRow w.heap.size 37 2 (.slice (some ad) acc.length c) acc.length vs∧InRules (w3.setCell ⟨w2.heap.size,0,none⟩ (.slice pao L.length pcap)) w.heap.size vs acc):=⟨own_below HR2.out.1 b24,HR2.out.2.below b24⟩
    clear CP BA bA op b3 A3 b23 b24 HR2 B2
    go_upto_region 13 with fail
    obtain ⟨bx,hbx⟩: ∃b:Bool,b=false:=⟨_,rfl⟩
    rw[←hbx]at A4
    have HX2:Hid (rr=⟨L,bx⟩):=by show _=_;rw[hbx];exact HX.out
    clear HX hbx
    have hD4:=A4.out.2.2
    generalize w3.setCell ⟨w2.heap.size,0,none⟩ (.slice pao L.length pcap)=w4 at A4 S4 B4 H4 hD4⊢
    generalize w2.heap.size=D at A4 hD4 hw1⊢
    clear f3 c30
    have hw4:w.heap.size≤w4.heap.size:=by omega
    have HVC:Hid (∀W,Below w4.heap.size w4 W→ ∀j u,vs[j]? =some u→W.cell? (ad.add j)=some u):=fun W hb j u hj=>own_cellsA (own_below H4.out.1 hb) hj
    refine wp_region_held_drew (S:=fun W=>Below w4.heap.size w4 W) (by kernel_rfl) (Below.refl _ w4).drew (fun h0=> ?_)
    refine wpAnyH_take (i:=1) (v:= ?_) rfl (by kernel_rfl) (by kernel_rfl) (by kernel_rfl) (fun _ _ _ h=>h) (Or.inl ⟨by rfl,fun W hW=> ?_⟩) h0 ?_
    rotate_left
    ·clear hW
     go_simp
     try with_reducible rfl
    simp only[Act.put,List.getElem_toArray,List.getElem_cons_zero,List.getElem_cons_succ,List.setIfInBounds_toArray,List.set_cons_zero,List.set_cons_succ]
    refine wpAnyH_take (i:=3) (v:=.agg #[.slice pao L.length pcap,.bool bx]) rfl (by kernel_rfl) (by kernel_rfl) (by kernel_rfl) (fun _ _ _ h=>h) (Or.inl ⟨by rfl,fun W hW=> ?_⟩) h0 ?_
    ·have q0:=(A4.out.below hW).1 0 _ rfl
     have q1:=(A4.out.below hW).1 1 _ rfl
     go_simp
    simp only[Act.put,List.getElem_toArray,List.getElem_cons_zero,List.getElem_cons_succ,List.setIfInBounds_toArray,List.set_cons_zero,List.set_cons_succ]
    refine wpAnyH_ready (rs:=[0,4]) (by kernel_rfl) (by simp) (AllReadyH.cons rfl (fun K hK=> ?_) (AllReadyH.cons rfl (fun K hK=> ?_) AllReadyH.nil))
    ·go_simp
     refine hK.out _ _ (h0.alloc h0.size _) (fun h1=> ?_)
     clear hK K h1
     have o47:=hidden (World.ownsRow_made (e:=37) (size:=2) (base:=w4.heap.size) w4.drew #[] 0 (Nat.le_refl _) (by decide) rfl)
     have h1:Below w4.heap.size w4 (w4.drew.alloc (.cells #[] 37)):=h0.alloc h0.size _
     refine wpAnyH_ready (rs:=[2,4]) (by kernel_rfl) (by simp) (AllReadyH.cons rfl (fun K hK=> ?_) (AllReadyH.cons rfl (fun K hK=> ?_) AllReadyH.nil))
     ·rw[if_pos (by rfl)]
      refine wp_append_own _ (.tmp 47) (.tmp 48) 24 rfl w4.heap.size 37 i0 (.agg #[.slice none 0 0,.bool false]) 2 32 Tryz.underlying24 hi hz0 hz1 hz2 rfl (by decide) (.slice (some ⟨w4.drew.heap.size,0,none⟩) 0 0) 0 [] rfl (o47.out) ad acc.length c vs rfl HVL.out (HVC.out _ (h1)) HV1.out (by unfold maxLen;omega) (by omega) (h1).size ?_
      intro v49 wq o49 g49 _
      rw[Nat.zero_add,List.nil_append]at o49
      have hq:=(h1).grown g49 (h1).size (fun k hk=>((o47.out).lt k hk).1)
      refine hK.out _ _ hq (fun h3=> ?_)
      clear hK K h3
      refine wpAnyH_ready (rs:=[4]) (by kernel_rfl) (by simp) (AllReadyH.cons rfl (fun K hK=> ?_) AllReadyH.nil)
      go_simp
      refine hK.out _ _ (hq.alloc hq.size _) (fun h3=> ?_)
      clear hK K
      refine wpAnyH_ready (rs:=[5]) (by kernel_rfl) (by simp) (AllReadyH.cons rfl (fun K hK=> ?_) AllReadyH.nil)
      have oB:=o49.alloc (.cells #[.slice pao L.length pcap,.bool bx] 37)
      have hB:=hq.alloc hq.size (.cells #[.slice pao L.length pcap,.bool bx] 37)
      have tB:=BAt.new wq #[.slice pao L.length pcap,.bool bx] 37
      rw[if_pos (by rfl)]
      refine wp_append_own _ (.tmp 49) (.tmp 51) 24 rfl w4.heap.size 37 i0 (.agg #[.slice none 0 0,.bool false]) 2 32 Tryz.underlying24 hi hz0 hz1 hz2 rfl (by decide) v49 acc.length vs rfl (oB) ⟨wq.heap.size,0,none⟩ 1 1 [.slice pao L.length pcap,.bool bx] rfl rfl (fun j u hj=>by rw[Addr.add_lit,Nat.zero_add];exact (tB).1 j u hj) (by intro u hu;simp at hu;rcases hu with rfl|rfl<;>rfl) (by unfold maxLen;omega) (by omega) (hB).size ?_
      intro v52 w5 o52 g52 _
      have h5:=(hB).grown g52 (hB).size (fun k hk=>((oB).lt k hk).1)
      refine hK.out _ _ h5 (fun h6=> ?_)
      clear hK K
      refine wpAnyH_take (i:=6) (v:= ?_) rfl (by kernel_rfl) (by kernel_rfl) (by kernel_rfl) (fun _ _ _ h=>h) (Or.inl ⟨by rfl,fun W hW=> ?_⟩) h6 ?_
      rotate_left
      ·clear hW
       go_simp
       try with_reducible rfl
      refine wpAnyH_done (by kernel_rfl) ?_ _
      have O5:=hidden o52
      have H5:=hidden h5
      clear o52 h5 h6 g52
      simp only[Act.put,List.getElem_toArray,List.getElem_cons_zero,List.getElem_cons_succ,List.setIfInBounds_toArray,List.set_cons_zero,List.set_cons_succ]
      (try clear oB);(try clear hB);(try clear tB);(try clear tq);clear o49 g49 hq
      obtain ⟨g5,c5,rfl⟩: ∃g5 c5,v52=.slice (some ⟨g5,0,none⟩) (acc.length+1) c5:=by
       rcases O5.out.2 with ⟨_,h⟩|⟨g5,c5,cur,h,_⟩
       ·omega
       exact ⟨g5,c5,h⟩
      have O6:Hid (w5.ownsRow w.heap.size 37 2 (.slice (some ⟨g5,0,none⟩) (acc.length+1) c5) (acc++[rr]).length (vs++[.slice pao L.length pcap,.bool bx])):=by
       have:=own_wide0 O5.out hw4
       rw[List.length_append]
       exact this
      have I6:Hid (InRules w5 w.heap.size (vs++[.slice pao L.length pcap,.bool bx]) (acc++[rr])):=by
       rw[HX2.out]
       exact (H4.out.2.below H5.out).snoc (r:=⟨L,bx⟩) HVL.out (S4.out.below H5.out) HPB.out
      have HA7:Hid (Apart g5 (vs++[.slice pao L.length pcap,.bool bx]) (acc++[rr])):=by
       rw[HX2.out]
       exact Apart.new (H4.out.2.snoc (r:=⟨L,bx⟩) HVL.out S4.out HPB.out) (O5.out.lt g5 rfl).1
      have B6:=B4.trans (H5.out.mono B4.size)
      have hal:(acc++[rr]).length=acc.length+1:=by simp
      have HS6:Hid (RSz (acc++[rr])):=fun r hr=>by
       rcases List.mem_append.1 hr with h|h
       ·exact rules_sz HB.out r h
       rw[List.mem_singleton.1 h,HX2.out]
       exact HLS.out
      have CR:Hid (CB 42 #[.slice (some ⟨g5,0,none⟩) (acc.length+1) c5] w5 (.bool (rulesB (acc++[rr])))):=specRulesOk (acc++[rr]) _ w5 (by omega) HS6.out (RuleRow.of_own O6.out I6.out.cells)
      clear O5 H5 HS6
      cases hrb:rulesB (acc++[rr])with
      |false=>
       have hE:=HF.out
       rw[hrb,if_neg (by decide)]at hE
       rw[hrb]at CR
       clear hrb HF O6 I6
       subst hE
       go_wp2_with fail
       refine CR.out.mono ?_
       rintro e w6 ⟨rfl,b6⟩
       have B7:=(B6.trans (b6.mono B6.size)).alloc (B6.trans (b6.mono B6.size)).size (.cells #[] 37)
       have o7:=World.ownsRow_made (e:=37) (size:=2) (base:=w.heap.size) w6 #[] 0 (by have:=(B6.trans (b6.mono B6.size)).size;have:=B1.out.size;omega) (by decide) rfl
       clear b6 B6
       go_wp2_with fail
       go_ret2
       exact ⟨_,rfl,⟨[],_,_,rfl,o7,(fun i hi=>absurd hi (Nat.not_lt_zero _)),Apart.nil _ _⟩,B1.out.trans (B7.mono B1.out.size)⟩
      |true=>
       have hE:=HF.out
       rw[if_pos hrb]at hE
       have HF7:=hidden hE
       have HB7:=hidden hrb
       rw[hrb]at CR
       clear hrb HF hE
       go_wp2_with fail
       refine CR.out.mono ?_
       rintro e w6 ⟨rfl,b6⟩
       have B7:=B6.trans (b6.mono B6.size)
       have R7:Hid (w6.ownsRow w.heap.size 37 2 (.slice (some ⟨g5,0,none⟩) (acc.length+1) c5) (acc++[rr]).length (vs++[.slice pao L.length pcap,.bool bx])∧InRules w6 w.heap.size (vs++[.slice pao L.length pcap,.bool bx]) (acc++[rr])):=⟨own_below O6.out b6,I6.out.below b6⟩
       clear b6 B6 O6 I6 CR
       go_wp2_with fail
       go_roundw
       case rel=>exact ⟨k+1,acc++[rr],_,_,_,by omega,by go_num,by rw[hal],R7,HF7,HB7,HA7,B7⟩
       case measure=>simp[intOf];omega
     go_simp
     refine hK.out _ _ (h1.alloc h1.size _) (fun h3=> ?_)
     clear hK K h3
     have oB:=o47.out.alloc (.cells #[.slice pao L.length pcap,.bool bx] 37)
     have hB:=h1.alloc h1.size (.cells #[.slice pao L.length pcap,.bool bx] 37)
     have tB:BAt ((w4.drew.alloc (.cells #[] 37)).alloc (.cells #[.slice pao L.length pcap,.bool bx] 37)) (w4.heap.size+1) [.slice pao L.length pcap,.bool bx]:=by
      have:=BAt.new (w4.drew.alloc (.cells #[] 37)) #[.slice pao L.length pcap,.bool bx] 37
      rw[World.size_alloc]at this
      exact this
     refine wpAnyH_ready (rs:=[2]) (by kernel_rfl) (by simp) (AllReadyH.cons rfl (fun K hK=> ?_) AllReadyH.nil)
     rw[if_pos (by rfl)]
     refine wp_append_own _ (.tmp 47) (.tmp 48) 24 rfl w4.heap.size 37 i0 (.agg #[.slice none 0 0,.bool false]) 2 32 Tryz.underlying24 hi hz0 hz1 hz2 rfl (by decide) (.slice (some ⟨w4.drew.heap.size,0,none⟩) 0 0) 0 [] rfl (oB) ad acc.length c vs rfl HVL.out (HVC.out _ (hB)) HV1.out (by unfold maxLen;omega) (by omega) (hB).size ?_
     intro v49 wq o49 g49 _
     rw[Nat.zero_add,List.nil_append]at o49
     have hq:=(hB).grown g49 (hB).size (fun k hk=>((oB).lt k hk).1)
     have tq:=tB.grown (C:=w4.heap.size) g49 (by omega)
     refine hK.out _ _ hq (fun h3=> ?_)
     clear hK K h3
     refine wpAnyH_ready (rs:=[5]) (by kernel_rfl) (by simp) (AllReadyH.cons rfl (fun K hK=> ?_) AllReadyH.nil)
     rw[if_pos (by rfl)]
     refine wp_append_own _ (.tmp 49) (.tmp 51) 24 rfl w4.heap.size 37 i0 (.agg #[.slice none 0 0,.bool false]) 2 32 Tryz.underlying24 hi hz0 hz1 hz2 rfl (by decide) v49 acc.length vs rfl (o49) ⟨(w4.heap.size+1),0,none⟩ 1 1 [.slice pao L.length pcap,.bool bx] rfl rfl (fun j u hj=>by rw[Addr.add_lit,Nat.zero_add];exact (tq).1 j u hj) (by intro u hu;simp at hu;rcases hu with rfl|rfl<;>rfl) (by unfold maxLen;omega) (by omega) (hq).size ?_
     intro v52 w5 o52 g52 _
     have h5:=(hq).grown g52 (hq).size (fun k hk=>((o49).lt k hk).1)
     refine hK.out _ _ h5 (fun h6=> ?_)
     clear hK K
     refine wpAnyH_take (i:=6) (v:= ?_) rfl (by kernel_rfl) (by kernel_rfl) (by kernel_rfl) (fun _ _ _ h=>h) (Or.inl ⟨by rfl,fun W hW=> ?_⟩) h6 ?_
     rotate_left
     ·clear hW
      go_simp
      try with_reducible rfl
     refine wpAnyH_done (by kernel_rfl) ?_ _
     have O5:=hidden o52
     have H5:=hidden h5
     clear o52 h5 h6 g52
     simp only[Act.put,List.getElem_toArray,List.getElem_cons_zero,List.getElem_cons_succ,List.setIfInBounds_toArray,List.set_cons_zero,List.set_cons_succ]
     (try clear oB);(try clear hB);(try clear tB);(try clear tq);clear o49 g49 hq
     obtain ⟨g5,c5,rfl⟩: ∃g5 c5,v52=.slice (some ⟨g5,0,none⟩) (acc.length+1) c5:=by
      rcases O5.out.2 with ⟨_,h⟩|⟨g5,c5,cur,h,_⟩
      ·omega
      exact ⟨g5,c5,h⟩
     have O6:Hid (w5.ownsRow w.heap.size 37 2 (.slice (some ⟨g5,0,none⟩) (acc.length+1) c5) (acc++[rr]).length (vs++[.slice pao L.length pcap,.bool bx])):=by
      have:=own_wide0 O5.out hw4
      rw[List.length_append]
      exact this
     have I6:Hid (InRules w5 w.heap.size (vs++[.slice pao L.length pcap,.bool bx]) (acc++[rr])):=by
      rw[HX2.out]
      exact (H4.out.2.below H5.out).snoc (r:=⟨L,bx⟩) HVL.out (S4.out.below H5.out) HPB.out
     have HA7:Hid (Apart g5 (vs++[.slice pao L.length pcap,.bool bx]) (acc++[rr])):=by
      rw[HX2.out]
      exact Apart.new (H4.out.2.snoc (r:=⟨L,bx⟩) HVL.out S4.out HPB.out) (O5.out.lt g5 rfl).1
     have B6:=B4.trans (H5.out.mono B4.size)
     have hal:(acc++[rr]).length=acc.length+1:=by simp
     have HS6:Hid (RSz (acc++[rr])):=fun r hr=>by
      rcases List.mem_append.1 hr with h|h
      ·exact rules_sz HB.out r h
      rw[List.mem_singleton.1 h,HX2.out]
      exact HLS.out
     have CR:Hid (CB 42 #[.slice (some ⟨g5,0,none⟩) (acc.length+1) c5] w5 (.bool (rulesB (acc++[rr])))):=specRulesOk (acc++[rr]) _ w5 (by omega) HS6.out (RuleRow.of_own O6.out I6.out.cells)
     clear O5 H5 HS6
     cases hrb:rulesB (acc++[rr])with
     |false=>
      have hE:=HF.out
      rw[hrb,if_neg (by decide)]at hE
      rw[hrb]at CR
      clear hrb HF O6 I6
      subst hE
      go_wp2_with fail
      refine CR.out.mono ?_
      rintro e w6 ⟨rfl,b6⟩
      have B7:=(B6.trans (b6.mono B6.size)).alloc (B6.trans (b6.mono B6.size)).size (.cells #[] 37)
      have o7:=World.ownsRow_made (e:=37) (size:=2) (base:=w.heap.size) w6 #[] 0 (by have:=(B6.trans (b6.mono B6.size)).size;have:=B1.out.size;omega) (by decide) rfl
      clear b6 B6
      go_wp2_with fail
      go_ret2
      exact ⟨_,rfl,⟨[],_,_,rfl,o7,(fun i hi=>absurd hi (Nat.not_lt_zero _)),Apart.nil _ _⟩,B1.out.trans (B7.mono B1.out.size)⟩
     |true=>
      have hE:=HF.out
      rw[if_pos hrb]at hE
      have HF7:=hidden hE
      have HB7:=hidden hrb
      rw[hrb]at CR
      clear hrb HF hE
      go_wp2_with fail
      refine CR.out.mono ?_
      rintro e w6 ⟨rfl,b6⟩
      have B7:=B6.trans (b6.mono B6.size)
      have R7:Hid (w6.ownsRow w.heap.size 37 2 (.slice (some ⟨g5,0,none⟩) (acc.length+1) c5) (acc++[rr]).length (vs++[.slice pao L.length pcap,.bool bx])∧InRules w6 w.heap.size (vs++[.slice pao L.length pcap,.bool bx]) (acc++[rr])):=⟨own_below O6.out b6,I6.out.below b6⟩
      clear b6 B6 O6 I6 CR
      go_wp2_with fail
      go_roundw
      case rel=>exact ⟨k+1,acc++[rr],_,_,_,by omega,by go_num,by rw[hal],R7,HF7,HB7,HA7,B7⟩
      case measure=>simp[intOf];omega
    go_simp
    refine hK.out _ _ (h0.alloc h0.size _) (fun h1=> ?_)
    clear hK K h1
    have h1:=h0.alloc h0.size (.cells #[.slice pao L.length pcap,.bool bx] 37)
    have t1:=BAt.new w4.drew #[.slice pao L.length pcap,.bool bx] 37
    refine wpAnyH_ready (rs:=[0]) (by kernel_rfl) (by simp) (AllReadyH.cons rfl (fun K hK=> ?_) AllReadyH.nil)
    go_simp
    refine hK.out _ _ (h1.alloc h1.size _) (fun h3=> ?_)
    clear hK K h3
    have hB:=h1.alloc h1.size (.cells #[] 37)
    have tB:=t1.alloc (.cells #[] 37)
    have oB:((w4.drew.alloc (.cells #[.slice pao L.length pcap,.bool bx] 37)).alloc (.cells #[] 37)).ownsRow w4.heap.size 37 2 (.slice (some ⟨w4.heap.size+1,0,none⟩) 0 0) 0 []:=by
     have:=World.ownsRow_made (e:=37) (size:=2) (base:=w4.heap.size) (w4.drew.alloc (.cells #[.slice pao L.length pcap,.bool bx] 37)) #[] 0 (by simp) (by decide) rfl
     rw[World.size_alloc]at this
     exact this
    refine wpAnyH_ready (rs:=[2]) (by kernel_rfl) (by simp) (AllReadyH.cons rfl (fun K hK=> ?_) AllReadyH.nil)
    rw[if_pos (by rfl)]
    refine wp_append_own _ (.tmp 47) (.tmp 48) 24 rfl w4.heap.size 37 i0 (.agg #[.slice none 0 0,.bool false]) 2 32 Tryz.underlying24 hi hz0 hz1 hz2 rfl (by decide) (.slice (some ⟨w4.heap.size+1,0,none⟩) 0 0) 0 [] rfl (oB) ad acc.length c vs rfl HVL.out (HVC.out _ (hB)) HV1.out (by unfold maxLen;omega) (by omega) (hB).size ?_
    intro v49 wq o49 g49 _
    rw[Nat.zero_add,List.nil_append]at o49
    have hq:=(hB).grown g49 (hB).size (fun k hk=>((oB).lt k hk).1)
    have tq:=tB.grown (C:=w4.heap.size+1) g49 (by show w4.heap.size≠_;omega)
    refine hK.out _ _ hq (fun h3=> ?_)
    clear hK K h3
    refine wpAnyH_ready (rs:=[5]) (by kernel_rfl) (by simp) (AllReadyH.cons rfl (fun K hK=> ?_) AllReadyH.nil)
    rw[if_pos (by rfl)]
    refine wp_append_own _ (.tmp 49) (.tmp 51) 24 rfl w4.heap.size 37 i0 (.agg #[.slice none 0 0,.bool false]) 2 32 Tryz.underlying24 hi hz0 hz1 hz2 rfl (by decide) v49 acc.length vs rfl (o49) ⟨w4.drew.heap.size,0,none⟩ 1 1 [.slice pao L.length pcap,.bool bx] rfl rfl (fun j u hj=>by rw[Addr.add_lit,Nat.zero_add];exact (tq).1 j u hj) (by intro u hu;simp at hu;rcases hu with rfl|rfl<;>rfl) (by unfold maxLen;omega) (by omega) (hq).size ?_
    intro v52 w5 o52 g52 _
    have h5:=(hq).grown g52 (hq).size (fun k hk=>((o49).lt k hk).1)
    refine hK.out _ _ h5 (fun h6=> ?_)
    clear hK K
    refine wpAnyH_take (i:=6) (v:= ?_) rfl (by kernel_rfl) (by kernel_rfl) (by kernel_rfl) (fun _ _ _ h=>h) (Or.inl ⟨by rfl,fun W hW=> ?_⟩) h6 ?_
    rotate_left
    ·clear hW
     go_simp
     try with_reducible rfl
    refine wpAnyH_done (by kernel_rfl) ?_ _
    have O5:=hidden o52
    have H5:=hidden h5
    clear o52 h5 h6 g52
    simp only[Act.put,List.getElem_toArray,List.getElem_cons_zero,List.getElem_cons_succ,List.setIfInBounds_toArray,List.set_cons_zero,List.set_cons_succ]
    (try clear oB);(try clear hB);(try clear tB);(try clear tq);clear o49 g49 hq
    obtain ⟨g5,c5,rfl⟩: ∃g5 c5,v52=.slice (some ⟨g5,0,none⟩) (acc.length+1) c5:=by
     rcases O5.out.2 with ⟨_,h⟩|⟨g5,c5,cur,h,_⟩
     ·omega
     exact ⟨g5,c5,h⟩
    have O6:Hid (w5.ownsRow w.heap.size 37 2 (.slice (some ⟨g5,0,none⟩) (acc.length+1) c5) (acc++[rr]).length (vs++[.slice pao L.length pcap,.bool bx])):=by
     have:=own_wide0 O5.out hw4
     rw[List.length_append]
     exact this
    have I6:Hid (InRules w5 w.heap.size (vs++[.slice pao L.length pcap,.bool bx]) (acc++[rr])):=by
     rw[HX2.out]
     exact (H4.out.2.below H5.out).snoc (r:=⟨L,bx⟩) HVL.out (S4.out.below H5.out) HPB.out
    have HA7:Hid (Apart g5 (vs++[.slice pao L.length pcap,.bool bx]) (acc++[rr])):=by
     rw[HX2.out]
     exact Apart.new (H4.out.2.snoc (r:=⟨L,bx⟩) HVL.out S4.out HPB.out) (O5.out.lt g5 rfl).1
    have B6:=B4.trans (H5.out.mono B4.size)
    have hal:(acc++[rr]).length=acc.length+1:=by simp
    have HS6:Hid (RSz (acc++[rr])):=fun r hr=>by
     rcases List.mem_append.1 hr with h|h
     ·exact rules_sz HB.out r h
     rw[List.mem_singleton.1 h,HX2.out]
     exact HLS.out
    have CR:Hid (CB 42 #[.slice (some ⟨g5,0,none⟩) (acc.length+1) c5] w5 (.bool (rulesB (acc++[rr])))):=specRulesOk (acc++[rr]) _ w5 (by omega) HS6.out (RuleRow.of_own O6.out I6.out.cells)
    clear O5 H5 HS6
    cases hrb:rulesB (acc++[rr])with
    |false=>
     have hE:=HF.out
     rw[hrb,if_neg (by decide)]at hE
     rw[hrb]at CR
     clear hrb HF O6 I6
     subst hE
     go_wp2_with fail
     refine CR.out.mono ?_
     rintro e w6 ⟨rfl,b6⟩
     have B7:=(B6.trans (b6.mono B6.size)).alloc (B6.trans (b6.mono B6.size)).size (.cells #[] 37)
     have o7:=World.ownsRow_made (e:=37) (size:=2) (base:=w.heap.size) w6 #[] 0 (by have:=(B6.trans (b6.mono B6.size)).size;have:=B1.out.size;omega) (by decide) rfl
     clear b6 B6
     go_wp2_with fail
     go_ret2
     exact ⟨_,rfl,⟨[],_,_,rfl,o7,(fun i hi=>absurd hi (Nat.not_lt_zero _)),Apart.nil _ _⟩,B1.out.trans (B7.mono B1.out.size)⟩
    |true=>
     have hE:=HF.out
     rw[if_pos hrb]at hE
     have HF7:=hidden hE
     have HB7:=hidden hrb
     rw[hrb]at CR
     clear hrb HF hE
     go_wp2_with fail
     refine CR.out.mono ?_
     rintro e w6 ⟨rfl,b6⟩
     have B7:=B6.trans (b6.mono B6.size)
     have R7:Hid (w6.ownsRow w.heap.size 37 2 (.slice (some ⟨g5,0,none⟩) (acc.length+1) c5) (acc++[rr]).length (vs++[.slice pao L.length pcap,.bool bx])∧InRules w6 w.heap.size (vs++[.slice pao L.length pcap,.bool bx]) (acc++[rr])):=⟨own_below O6.out b6,I6.out.below b6⟩
     clear b6 B6 O6 I6 CR
     go_wp2_with fail
     go_roundw
     case rel=>exact ⟨k+1,acc++[rr],_,_,_,by omega,by go_num,by rw[hal],R7,HF7,HB7,HA7,B7⟩
     case measure=>simp[intOf];omega
   have HVL:Hid (vs.length=acc.length*2):=HR2.out.1.1
   have HV1:Hid (∀u∈vs,u.oneCell'=true):=HR2.out.2.one HR2.out.1.1
   have h60:=rules_60 HB.out
   have hw1:w.heap.size≤w2.heap.size:=by have:=B1.out.size;have:=B2.size;omega
   have CP:Hid (Calls Tryz.prog 62 #[.string t] (w2.alloc (.cells #[.slice none 0 0,.bool false] 37)) fun e w'=> ∃v,e=.returned v∧w'.ownsRow (w2.alloc (.cells #[.slice none 0 0,.bool false] 37)).heap.size 9 1 v (partsL t).length (scells (partsL t))∧Below (w2.alloc (.cells #[.slice none 0 0,.bool false] 37)).heap.size (w2.alloc (.cells #[.slice none 0 0,.bool false] 37)) w'):=specParts t _ hex
   have HLS:Hid ((partsL t).length≤2097152∧ ∀x∈partsL t,x.size≤1048576):=⟨by have:=parts_most t;omega,fun x hx=>by have:=parts_sizes t x hx;omega⟩
   generalize partsL t=L at CP HX HLS
   have BA:BAt (w2.alloc (.cells #[.slice none 0 0,.bool false] 37)) w2.heap.size [.slice none 0 0,.bool false]:=BAt.new w2 #[.slice none 0 0,.bool false] _
   have bA:Below w2.heap.size w2 (w2.alloc (.cells #[.slice none 0 0,.bool false] 37)):=(Below.refl _ _).alloc (Nat.le_refl _) _
   go_upto_region 12 with fail
   go_wp2_with fail
   refine CP.out.mono ?_
   rintro e w3 ⟨p,rfl,op,b3⟩
   have A3:=BA.below b3
   have b23:=bA.trans (b3.mono bA.size)
   have b24:=b23.setCell (p:=⟨w2.heap.size,0,none⟩) (Nat.le_refl _) p
   have A4:=hidden (A3.set 0 (by decide) p)
   have S4:=hidden (StrRow.of_own (own_put op (C:=w2.heap.size) (by simp) 0 p))
   have f3:=A3.2.1
   have c30:=A3.1 0 _ rfl
   obtain ⟨pao,pcap,rfl⟩:=(StrRow.of_own op).slice
   have HPB:Hid (∀b,(Value.slice pao L.length pcap).ownBlock=some b→w.heap.size≤b):=fun b hb=>by have:=(op.lt b hb).1;have h2:=bA.size;omega
   have B4:=B2.trans (b24.mono B2.size)
   have H4:Hid ((w3.setCell ⟨w2.heap.size,0,none⟩ (.slice pao L.length pcap)).ownsRow w.heap.size 37 2 (.slice (some ad) acc.length c) acc.length vs∧InRules (w3.setCell ⟨w2.heap.size,0,none⟩ (.slice pao L.length pcap)) w.heap.size vs acc):=⟨own_below HR2.out.1 b24,HR2.out.2.below b24⟩
   clear CP BA bA op b3 A3 b23 b24 HR2 B2
   go_upto_region 13 with fail
   obtain ⟨bx,hbx⟩: ∃b:Bool,b=false:=⟨_,rfl⟩
   rw[←hbx]at A4
   have HX2:Hid (rr=⟨L,bx⟩):=by show _=_;rw[hbx];exact HX.out
   clear HX hbx
   have hD4:=A4.out.2.2
   generalize w3.setCell ⟨w2.heap.size,0,none⟩ (.slice pao L.length pcap)=w4 at A4 S4 B4 H4 hD4⊢
   generalize w2.heap.size=D at A4 hD4 hw1⊢
   clear f3 c30
   have hw4:w.heap.size≤w4.heap.size:=by omega
   have HVC:Hid (∀W,Below w4.heap.size w4 W→ ∀j u,vs[j]? =some u→W.cell? (ad.add j)=some u):=fun W hb j u hj=>own_cellsA (own_below H4.out.1 hb) hj
   refine wp_region_held_drew (S:=fun W=>Below w4.heap.size w4 W) (by kernel_rfl) (Below.refl _ w4).drew (fun h0=> ?_)
   refine wpAnyH_take (i:=1) (v:= ?_) rfl (by kernel_rfl) (by kernel_rfl) (by kernel_rfl) (fun _ _ _ h=>h) (Or.inl ⟨by rfl,fun W hW=> ?_⟩) h0 ?_
   rotate_left
   ·clear hW
    go_simp
    try with_reducible rfl
   simp only[Act.put,List.getElem_toArray,List.getElem_cons_zero,List.getElem_cons_succ,List.setIfInBounds_toArray,List.set_cons_zero,List.set_cons_succ]
   refine wpAnyH_take (i:=3) (v:=.agg #[.slice pao L.length pcap,.bool bx]) rfl (by kernel_rfl) (by kernel_rfl) (by kernel_rfl) (fun _ _ _ h=>h) (Or.inl ⟨by rfl,fun W hW=> ?_⟩) h0 ?_
   ·have q0:=(A4.out.below hW).1 0 _ rfl
    have q1:=(A4.out.below hW).1 1 _ rfl
    go_simp
   simp only[Act.put,List.getElem_toArray,List.getElem_cons_zero,List.getElem_cons_succ,List.setIfInBounds_toArray,List.set_cons_zero,List.set_cons_succ]
   refine wpAnyH_ready (rs:=[0,4]) (by kernel_rfl) (by simp) (AllReadyH.cons rfl (fun K hK=> ?_) (AllReadyH.cons rfl (fun K hK=> ?_) AllReadyH.nil))
   ·go_simp
    refine hK.out _ _ (h0.alloc h0.size _) (fun h1=> ?_)
    clear hK K h1
    have o47:=hidden (World.ownsRow_made (e:=37) (size:=2) (base:=w4.heap.size) w4.drew #[] 0 (Nat.le_refl _) (by decide) rfl)
    have h1:Below w4.heap.size w4 (w4.drew.alloc (.cells #[] 37)):=h0.alloc h0.size _
    refine wpAnyH_ready (rs:=[2,4]) (by kernel_rfl) (by simp) (AllReadyH.cons rfl (fun K hK=> ?_) (AllReadyH.cons rfl (fun K hK=> ?_) AllReadyH.nil))
    ·rw[if_pos (by rfl)]
     refine wp_append_own _ (.tmp 47) (.tmp 48) 24 rfl w4.heap.size 37 i0 (.agg #[.slice none 0 0,.bool false]) 2 32 Tryz.underlying24 hi hz0 hz1 hz2 rfl (by decide) (.slice (some ⟨w4.drew.heap.size,0,none⟩) 0 0) 0 [] rfl (o47.out) ad acc.length c vs rfl HVL.out (HVC.out _ (h1)) HV1.out (by unfold maxLen;omega) (by omega) (h1).size ?_
     intro v49 wq o49 g49 _
     rw[Nat.zero_add,List.nil_append]at o49
     have hq:=(h1).grown g49 (h1).size (fun k hk=>((o47.out).lt k hk).1)
     refine hK.out _ _ hq (fun h3=> ?_)
     clear hK K h3
     refine wpAnyH_ready (rs:=[4]) (by kernel_rfl) (by simp) (AllReadyH.cons rfl (fun K hK=> ?_) AllReadyH.nil)
     go_simp
     refine hK.out _ _ (hq.alloc hq.size _) (fun h3=> ?_)
     clear hK K
     refine wpAnyH_ready (rs:=[5]) (by kernel_rfl) (by simp) (AllReadyH.cons rfl (fun K hK=> ?_) AllReadyH.nil)
     have oB:=o49.alloc (.cells #[.slice pao L.length pcap,.bool bx] 37)
     have hB:=hq.alloc hq.size (.cells #[.slice pao L.length pcap,.bool bx] 37)
     have tB:=BAt.new wq #[.slice pao L.length pcap,.bool bx] 37
     rw[if_pos (by rfl)]
     refine wp_append_own _ (.tmp 49) (.tmp 51) 24 rfl w4.heap.size 37 i0 (.agg #[.slice none 0 0,.bool false]) 2 32 Tryz.underlying24 hi hz0 hz1 hz2 rfl (by decide) v49 acc.length vs rfl (oB) ⟨wq.heap.size,0,none⟩ 1 1 [.slice pao L.length pcap,.bool bx] rfl rfl (fun j u hj=>by rw[Addr.add_lit,Nat.zero_add];exact (tB).1 j u hj) (by intro u hu;simp at hu;rcases hu with rfl|rfl<;>rfl) (by unfold maxLen;omega) (by omega) (hB).size ?_
     intro v52 w5 o52 g52 _
     have h5:=(hB).grown g52 (hB).size (fun k hk=>((oB).lt k hk).1)
     refine hK.out _ _ h5 (fun h6=> ?_)
     clear hK K
     refine wpAnyH_take (i:=6) (v:= ?_) rfl (by kernel_rfl) (by kernel_rfl) (by kernel_rfl) (fun _ _ _ h=>h) (Or.inl ⟨by rfl,fun W hW=> ?_⟩) h6 ?_
     rotate_left
     ·clear hW
      go_simp
      try with_reducible rfl
     refine wpAnyH_done (by kernel_rfl) ?_ _
     have O5:=hidden o52
     have H5:=hidden h5
     clear o52 h5 h6 g52
     simp only[Act.put,List.getElem_toArray,List.getElem_cons_zero,List.getElem_cons_succ,List.setIfInBounds_toArray,List.set_cons_zero,List.set_cons_succ]
     (try clear oB);(try clear hB);(try clear tB);(try clear tq);clear o49 g49 hq
     obtain ⟨g5,c5,rfl⟩: ∃g5 c5,v52=.slice (some ⟨g5,0,none⟩) (acc.length+1) c5:=by
      rcases O5.out.2 with ⟨_,h⟩|⟨g5,c5,cur,h,_⟩
      ·omega
      exact ⟨g5,c5,h⟩
     have O6:Hid (w5.ownsRow w.heap.size 37 2 (.slice (some ⟨g5,0,none⟩) (acc.length+1) c5) (acc++[rr]).length (vs++[.slice pao L.length pcap,.bool bx])):=by
      have:=own_wide0 O5.out hw4
      rw[List.length_append]
      exact this
     have I6:Hid (InRules w5 w.heap.size (vs++[.slice pao L.length pcap,.bool bx]) (acc++[rr])):=by
      rw[HX2.out]
      exact (H4.out.2.below H5.out).snoc (r:=⟨L,bx⟩) HVL.out (S4.out.below H5.out) HPB.out
     have HA7:Hid (Apart g5 (vs++[.slice pao L.length pcap,.bool bx]) (acc++[rr])):=by
      rw[HX2.out]
      exact Apart.new (H4.out.2.snoc (r:=⟨L,bx⟩) HVL.out S4.out HPB.out) (O5.out.lt g5 rfl).1
     have B6:=B4.trans (H5.out.mono B4.size)
     have hal:(acc++[rr]).length=acc.length+1:=by simp
     have HS6:Hid (RSz (acc++[rr])):=fun r hr=>by
      rcases List.mem_append.1 hr with h|h
      ·exact rules_sz HB.out r h
      rw[List.mem_singleton.1 h,HX2.out]
      exact HLS.out
     have CR:Hid (CB 42 #[.slice (some ⟨g5,0,none⟩) (acc.length+1) c5] w5 (.bool (rulesB (acc++[rr])))):=specRulesOk (acc++[rr]) _ w5 (by omega) HS6.out (RuleRow.of_own O6.out I6.out.cells)
     clear O5 H5 HS6
     cases hrb:rulesB (acc++[rr])with
     |false=>
      have hE:=HF.out
      rw[hrb,if_neg (by decide)]at hE
      rw[hrb]at CR
      clear hrb HF O6 I6
      subst hE
      go_wp2_with fail
      refine CR.out.mono ?_
      rintro e w6 ⟨rfl,b6⟩
      have B7:=(B6.trans (b6.mono B6.size)).alloc (B6.trans (b6.mono B6.size)).size (.cells #[] 37)
      have o7:=World.ownsRow_made (e:=37) (size:=2) (base:=w.heap.size) w6 #[] 0 (by have:=(B6.trans (b6.mono B6.size)).size;have:=B1.out.size;omega) (by decide) rfl
      clear b6 B6
      go_wp2_with fail
      go_ret2
      exact ⟨_,rfl,⟨[],_,_,rfl,o7,(fun i hi=>absurd hi (Nat.not_lt_zero _)),Apart.nil _ _⟩,B1.out.trans (B7.mono B1.out.size)⟩
     |true=>
      have hE:=HF.out
      rw[if_pos hrb]at hE
      have HF7:=hidden hE
      have HB7:=hidden hrb
      rw[hrb]at CR
      clear hrb HF hE
      go_wp2_with fail
      refine CR.out.mono ?_
      rintro e w6 ⟨rfl,b6⟩
      have B7:=B6.trans (b6.mono B6.size)
      have R7:Hid (w6.ownsRow w.heap.size 37 2 (.slice (some ⟨g5,0,none⟩) (acc.length+1) c5) (acc++[rr]).length (vs++[.slice pao L.length pcap,.bool bx])∧InRules w6 w.heap.size (vs++[.slice pao L.length pcap,.bool bx]) (acc++[rr])):=⟨own_below O6.out b6,I6.out.below b6⟩
      clear b6 B6 O6 I6 CR
      go_wp2_with fail
      go_roundw
      case rel=>exact ⟨k+1,acc++[rr],_,_,_,by omega,by go_num,by rw[hal],R7,HF7,HB7,HA7,B7⟩
      case measure=>simp[intOf];omega
    go_simp
    refine hK.out _ _ (h1.alloc h1.size _) (fun h3=> ?_)
    clear hK K h3
    have oB:=o47.out.alloc (.cells #[.slice pao L.length pcap,.bool bx] 37)
    have hB:=h1.alloc h1.size (.cells #[.slice pao L.length pcap,.bool bx] 37)
    have tB:BAt ((w4.drew.alloc (.cells #[] 37)).alloc (.cells #[.slice pao L.length pcap,.bool bx] 37)) (w4.heap.size+1) [.slice pao L.length pcap,.bool bx]:=by
     have:=BAt.new (w4.drew.alloc (.cells #[] 37)) #[.slice pao L.length pcap,.bool bx] 37
     rw[World.size_alloc]at this
     exact this
    refine wpAnyH_ready (rs:=[2]) (by kernel_rfl) (by simp) (AllReadyH.cons rfl (fun K hK=> ?_) AllReadyH.nil)
    rw[if_pos (by rfl)]
    refine wp_append_own _ (.tmp 47) (.tmp 48) 24 rfl w4.heap.size 37 i0 (.agg #[.slice none 0 0,.bool false]) 2 32 Tryz.underlying24 hi hz0 hz1 hz2 rfl (by decide) (.slice (some ⟨w4.drew.heap.size,0,none⟩) 0 0) 0 [] rfl (oB) ad acc.length c vs rfl HVL.out (HVC.out _ (hB)) HV1.out (by unfold maxLen;omega) (by omega) (hB).size ?_
    intro v49 wq o49 g49 _
    rw[Nat.zero_add,List.nil_append]at o49
    have hq:=(hB).grown g49 (hB).size (fun k hk=>((oB).lt k hk).1)
    have tq:=tB.grown (C:=w4.heap.size) g49 (by omega)
    refine hK.out _ _ hq (fun h3=> ?_)
    clear hK K h3
    refine wpAnyH_ready (rs:=[5]) (by kernel_rfl) (by simp) (AllReadyH.cons rfl (fun K hK=> ?_) AllReadyH.nil)
    rw[if_pos (by rfl)]
    refine wp_append_own _ (.tmp 49) (.tmp 51) 24 rfl w4.heap.size 37 i0 (.agg #[.slice none 0 0,.bool false]) 2 32 Tryz.underlying24 hi hz0 hz1 hz2 rfl (by decide) v49 acc.length vs rfl (o49) ⟨(w4.heap.size+1),0,none⟩ 1 1 [.slice pao L.length pcap,.bool bx] rfl rfl (fun j u hj=>by rw[Addr.add_lit,Nat.zero_add];exact (tq).1 j u hj) (by intro u hu;simp at hu;rcases hu with rfl|rfl<;>rfl) (by unfold maxLen;omega) (by omega) (hq).size ?_
    intro v52 w5 o52 g52 _
    have h5:=(hq).grown g52 (hq).size (fun k hk=>((o49).lt k hk).1)
    refine hK.out _ _ h5 (fun h6=> ?_)
    clear hK K
    refine wpAnyH_take (i:=6) (v:= ?_) rfl (by kernel_rfl) (by kernel_rfl) (by kernel_rfl) (fun _ _ _ h=>h) (Or.inl ⟨by rfl,fun W hW=> ?_⟩) h6 ?_
    rotate_left
    ·clear hW
     go_simp
     try with_reducible rfl
    refine wpAnyH_done (by kernel_rfl) ?_ _
    have O5:=hidden o52
    have H5:=hidden h5
    clear o52 h5 h6 g52
    simp only[Act.put,List.getElem_toArray,List.getElem_cons_zero,List.getElem_cons_succ,List.setIfInBounds_toArray,List.set_cons_zero,List.set_cons_succ]
    (try clear oB);(try clear hB);(try clear tB);(try clear tq);clear o49 g49 hq
    obtain ⟨g5,c5,rfl⟩: ∃g5 c5,v52=.slice (some ⟨g5,0,none⟩) (acc.length+1) c5:=by
     rcases O5.out.2 with ⟨_,h⟩|⟨g5,c5,cur,h,_⟩
     ·omega
     exact ⟨g5,c5,h⟩
    have O6:Hid (w5.ownsRow w.heap.size 37 2 (.slice (some ⟨g5,0,none⟩) (acc.length+1) c5) (acc++[rr]).length (vs++[.slice pao L.length pcap,.bool bx])):=by
     have:=own_wide0 O5.out hw4
     rw[List.length_append]
     exact this
    have I6:Hid (InRules w5 w.heap.size (vs++[.slice pao L.length pcap,.bool bx]) (acc++[rr])):=by
     rw[HX2.out]
     exact (H4.out.2.below H5.out).snoc (r:=⟨L,bx⟩) HVL.out (S4.out.below H5.out) HPB.out
    have HA7:Hid (Apart g5 (vs++[.slice pao L.length pcap,.bool bx]) (acc++[rr])):=by
     rw[HX2.out]
     exact Apart.new (H4.out.2.snoc (r:=⟨L,bx⟩) HVL.out S4.out HPB.out) (O5.out.lt g5 rfl).1
    have B6:=B4.trans (H5.out.mono B4.size)
    have hal:(acc++[rr]).length=acc.length+1:=by simp
    have HS6:Hid (RSz (acc++[rr])):=fun r hr=>by
     rcases List.mem_append.1 hr with h|h
     ·exact rules_sz HB.out r h
     rw[List.mem_singleton.1 h,HX2.out]
     exact HLS.out
    have CR:Hid (CB 42 #[.slice (some ⟨g5,0,none⟩) (acc.length+1) c5] w5 (.bool (rulesB (acc++[rr])))):=specRulesOk (acc++[rr]) _ w5 (by omega) HS6.out (RuleRow.of_own O6.out I6.out.cells)
    clear O5 H5 HS6
    cases hrb:rulesB (acc++[rr])with
    |false=>
     have hE:=HF.out
     rw[hrb,if_neg (by decide)]at hE
     rw[hrb]at CR
     clear hrb HF O6 I6
     subst hE
     go_wp2_with fail
     refine CR.out.mono ?_
     rintro e w6 ⟨rfl,b6⟩
     have B7:=(B6.trans (b6.mono B6.size)).alloc (B6.trans (b6.mono B6.size)).size (.cells #[] 37)
     have o7:=World.ownsRow_made (e:=37) (size:=2) (base:=w.heap.size) w6 #[] 0 (by have:=(B6.trans (b6.mono B6.size)).size;have:=B1.out.size;omega) (by decide) rfl
     clear b6 B6
     go_wp2_with fail
     go_ret2
     exact ⟨_,rfl,⟨[],_,_,rfl,o7,(fun i hi=>absurd hi (Nat.not_lt_zero _)),Apart.nil _ _⟩,B1.out.trans (B7.mono B1.out.size)⟩
    |true=>
     have hE:=HF.out
     rw[if_pos hrb]at hE
     have HF7:=hidden hE
     have HB7:=hidden hrb
     rw[hrb]at CR
     clear hrb HF hE
     go_wp2_with fail
     refine CR.out.mono ?_
     rintro e w6 ⟨rfl,b6⟩
     have B7:=B6.trans (b6.mono B6.size)
     have R7:Hid (w6.ownsRow w.heap.size 37 2 (.slice (some ⟨g5,0,none⟩) (acc.length+1) c5) (acc++[rr]).length (vs++[.slice pao L.length pcap,.bool bx])∧InRules w6 w.heap.size (vs++[.slice pao L.length pcap,.bool bx]) (acc++[rr])):=⟨own_below O6.out b6,I6.out.below b6⟩
     clear b6 B6 O6 I6 CR
     go_wp2_with fail
     go_roundw
     case rel=>exact ⟨k+1,acc++[rr],_,_,_,by omega,by go_num,by rw[hal],R7,HF7,HB7,HA7,B7⟩
     case measure=>simp[intOf];omega
   go_simp
   refine hK.out _ _ (h0.alloc h0.size _) (fun h1=> ?_)
   clear hK K h1
   have h1:=h0.alloc h0.size (.cells #[.slice pao L.length pcap,.bool bx] 37)
   have t1:=BAt.new w4.drew #[.slice pao L.length pcap,.bool bx] 37
   refine wpAnyH_ready (rs:=[0]) (by kernel_rfl) (by simp) (AllReadyH.cons rfl (fun K hK=> ?_) AllReadyH.nil)
   go_simp
   refine hK.out _ _ (h1.alloc h1.size _) (fun h3=> ?_)
   clear hK K h3
   have hB:=h1.alloc h1.size (.cells #[] 37)
   have tB:=t1.alloc (.cells #[] 37)
   have oB:((w4.drew.alloc (.cells #[.slice pao L.length pcap,.bool bx] 37)).alloc (.cells #[] 37)).ownsRow w4.heap.size 37 2 (.slice (some ⟨w4.heap.size+1,0,none⟩) 0 0) 0 []:=by
    have:=World.ownsRow_made (e:=37) (size:=2) (base:=w4.heap.size) (w4.drew.alloc (.cells #[.slice pao L.length pcap,.bool bx] 37)) #[] 0 (by simp) (by decide) rfl
    rw[World.size_alloc]at this
    exact this
   refine wpAnyH_ready (rs:=[2]) (by kernel_rfl) (by simp) (AllReadyH.cons rfl (fun K hK=> ?_) AllReadyH.nil)
   rw[if_pos (by rfl)]
   refine wp_append_own _ (.tmp 47) (.tmp 48) 24 rfl w4.heap.size 37 i0 (.agg #[.slice none 0 0,.bool false]) 2 32 Tryz.underlying24 hi hz0 hz1 hz2 rfl (by decide) (.slice (some ⟨w4.heap.size+1,0,none⟩) 0 0) 0 [] rfl (oB) ad acc.length c vs rfl HVL.out (HVC.out _ (hB)) HV1.out (by unfold maxLen;omega) (by omega) (hB).size ?_
   intro v49 wq o49 g49 _
   rw[Nat.zero_add,List.nil_append]at o49
   have hq:=(hB).grown g49 (hB).size (fun k hk=>((oB).lt k hk).1)
   have tq:=tB.grown (C:=w4.heap.size+1) g49 (by show w4.heap.size≠_;omega)
   refine hK.out _ _ hq (fun h3=> ?_)
   clear hK K h3
   refine wpAnyH_ready (rs:=[5]) (by kernel_rfl) (by simp) (AllReadyH.cons rfl (fun K hK=> ?_) AllReadyH.nil)
   rw[if_pos (by rfl)]
   refine wp_append_own _ (.tmp 49) (.tmp 51) 24 rfl w4.heap.size 37 i0 (.agg #[.slice none 0 0,.bool false]) 2 32 Tryz.underlying24 hi hz0 hz1 hz2 rfl (by decide) v49 acc.length vs rfl (o49) ⟨w4.drew.heap.size,0,none⟩ 1 1 [.slice pao L.length pcap,.bool bx] rfl rfl (fun j u hj=>by rw[Addr.add_lit,Nat.zero_add];exact (tq).1 j u hj) (by intro u hu;simp at hu;rcases hu with rfl|rfl<;>rfl) (by unfold maxLen;omega) (by omega) (hq).size ?_
   intro v52 w5 o52 g52 _
   have h5:=(hq).grown g52 (hq).size (fun k hk=>((o49).lt k hk).1)
   refine hK.out _ _ h5 (fun h6=> ?_)
   clear hK K
   refine wpAnyH_take (i:=6) (v:= ?_) rfl (by kernel_rfl) (by kernel_rfl) (by kernel_rfl) (fun _ _ _ h=>h) (Or.inl ⟨by rfl,fun W hW=> ?_⟩) h6 ?_
   rotate_left
   ·clear hW
    go_simp
    try with_reducible rfl
   refine wpAnyH_done (by kernel_rfl) ?_ _
   have O5:=hidden o52
   have H5:=hidden h5
   clear o52 h5 h6 g52
   simp only[Act.put,List.getElem_toArray,List.getElem_cons_zero,List.getElem_cons_succ,List.setIfInBounds_toArray,List.set_cons_zero,List.set_cons_succ]
   (try clear oB);(try clear hB);(try clear tB);(try clear tq);clear o49 g49 hq
   obtain ⟨g5,c5,rfl⟩: ∃g5 c5,v52=.slice (some ⟨g5,0,none⟩) (acc.length+1) c5:=by
    rcases O5.out.2 with ⟨_,h⟩|⟨g5,c5,cur,h,_⟩
    ·omega
    exact ⟨g5,c5,h⟩
   have O6:Hid (w5.ownsRow w.heap.size 37 2 (.slice (some ⟨g5,0,none⟩) (acc.length+1) c5) (acc++[rr]).length (vs++[.slice pao L.length pcap,.bool bx])):=by
    have:=own_wide0 O5.out hw4
    rw[List.length_append]
    exact this
   have I6:Hid (InRules w5 w.heap.size (vs++[.slice pao L.length pcap,.bool bx]) (acc++[rr])):=by
    rw[HX2.out]
    exact (H4.out.2.below H5.out).snoc (r:=⟨L,bx⟩) HVL.out (S4.out.below H5.out) HPB.out
   have HA7:Hid (Apart g5 (vs++[.slice pao L.length pcap,.bool bx]) (acc++[rr])):=by
    rw[HX2.out]
    exact Apart.new (H4.out.2.snoc (r:=⟨L,bx⟩) HVL.out S4.out HPB.out) (O5.out.lt g5 rfl).1
   have B6:=B4.trans (H5.out.mono B4.size)
   have hal:(acc++[rr]).length=acc.length+1:=by simp
   have HS6:Hid (RSz (acc++[rr])):=fun r hr=>by
    rcases List.mem_append.1 hr with h|h
    ·exact rules_sz HB.out r h
    rw[List.mem_singleton.1 h,HX2.out]
    exact HLS.out
   have CR:Hid (CB 42 #[.slice (some ⟨g5,0,none⟩) (acc.length+1) c5] w5 (.bool (rulesB (acc++[rr])))):=specRulesOk (acc++[rr]) _ w5 (by omega) HS6.out (RuleRow.of_own O6.out I6.out.cells)
   clear O5 H5 HS6
   cases hrb:rulesB (acc++[rr])with
   |false=>
    have hE:=HF.out
    rw[hrb,if_neg (by decide)]at hE
    rw[hrb]at CR
    clear hrb HF O6 I6
    subst hE
    go_wp2_with fail
    refine CR.out.mono ?_
    rintro e w6 ⟨rfl,b6⟩
    have B7:=(B6.trans (b6.mono B6.size)).alloc (B6.trans (b6.mono B6.size)).size (.cells #[] 37)
    have o7:=World.ownsRow_made (e:=37) (size:=2) (base:=w.heap.size) w6 #[] 0 (by have:=(B6.trans (b6.mono B6.size)).size;have:=B1.out.size;omega) (by decide) rfl
    clear b6 B6
    go_wp2_with fail
    go_ret2
    exact ⟨_,rfl,⟨[],_,_,rfl,o7,(fun i hi=>absurd hi (Nat.not_lt_zero _)),Apart.nil _ _⟩,B1.out.trans (B7.mono B1.out.size)⟩
   |true=>
    have hE:=HF.out
    rw[if_pos hrb]at hE
    have HF7:=hidden hE
    have HB7:=hidden hrb
    rw[hrb]at CR
    clear hrb HF hE
    go_wp2_with fail
    refine CR.out.mono ?_
    rintro e w6 ⟨rfl,b6⟩
    have B7:=B6.trans (b6.mono B6.size)
    have R7:Hid (w6.ownsRow w.heap.size 37 2 (.slice (some ⟨g5,0,none⟩) (acc.length+1) c5) (acc++[rr]).length (vs++[.slice pao L.length pcap,.bool bx])∧InRules w6 w.heap.size (vs++[.slice pao L.length pcap,.bool bx]) (acc++[rr])):=⟨own_below O6.out b6,I6.out.below b6⟩
    clear b6 B6 O6 I6 CR
    go_wp2_with fail
    go_roundw
    case rel=>exact ⟨k+1,acc++[rr],_,_,_,by omega,by go_num,by rw[hal],R7,HF7,HB7,HA7,B7⟩
    case measure=>simp[intOf];omega
 have hki: ¬(k:Int)<fs.length:=by omega
 have HE:Hid (R=(acc,-1)):=by
  have:=HF.out
  rw[List.drop_of_length_le (by omega)]at this
  exact this.symm
 have hE:=HE.out
 clear HF HE
 subst hE
 go_wp2_with fail
 go_ret2
 exact ⟨_,rfl,⟨_,_,_,rfl,HR.out.1,HR.out.2,HAP.out⟩,B1.out.trans (hbel.mono B1.out.size)⟩
end Go.Proofs.YtijliddchoehhaaGreatDoor
