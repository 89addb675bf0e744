/- RuleSpec2, SufImpl1, RuleFits, FitsImpl. -/
import Derived.Test.YtijliddchoehhaaGreatDoorQA07
import Derived.Handy
import Derived.Deep.DeepCutAuto
set_option maxHeartbeats 4000000
namespace Go.Proofs.YtijliddchoehhaaGreatDoor
open Go.RowKit
theorem newB_of{l:List RV}{i:Nat}(h1:ruleB (l.getD i rv0)=true)(h2: ∀k,k<i→sameB (l.getD k rv0) (l.getD i rv0)=false):newB l i=true:=by
 unfold newB
 rw[show (⟨[],false⟩:RV)=rv0 from rfl,h1,Bool.true_and]
 exact all_range.2 fun k hk=>by rw[h2 k hk];rfl
theorem newB_rule{l:List RV}{i:Nat}(h:ruleB (l.getD i rv0)=false):newB l i=false:=by
 unfold newB
 rw[show (⟨[],false⟩:RV)=rv0 from rfl,h]
 rfl
theorem newB_same{l:List RV}{i k:Nat}(hk:k<i)(h:sameB (l.getD k rv0) (l.getD i rv0)=true):newB l i=false:=by
 cases hn:newB l i with
 |false=>rfl
 |true=>
  unfold newB at hn
  rw[show (⟨[],false⟩:RV)=rv0 from rfl]at hn
  simp only[Bool.and_eq_true]at hn
  have:=all_range.1 hn.2 k hk
  rw[h]at this
  cases this
theorem rulesB_not{l:List RV}{i:Nat}(hi:i<l.length)(h:newB l i=false):rulesB l=false:=by
 cases hr:rulesB l with
 |false=>rfl
 |true=>
  unfold rulesB at hr
  simp only[Bool.and_eq_true]at hr
  have:=all_range.1 hr.1 i hi
  rw[h]at this
  cases this
theorem rulesB_all{l:List RV}(h: ∀i,i<l.length→newB l i=true):rulesB l=decide (l.length≤60):=by
 unfold rulesB
 rw[all_range.2 h,Bool.true_and]
def RSz(l:List RV):Prop:= ∀r∈l,r.ps.length≤2097152∧ ∀x∈r.ps,x.size≤1048576
theorem rsz_at{l:List RV}(h:RSz l){i:Nat}(hi:i<l.length):(l.getD i rv0).ps.length≤2097152∧ ∀x∈(l.getD i rv0).ps,x.size≤1048576:=by
 refine h _ ?_
 rw[List.getD_eq_getElem?_getD,List.getElem?_eq_getElem hi]
 exact List.getElem_mem _
theorem specRulesOk(l:List RV)(v:Value)(w:World)(hl:l.length≤1048576)(hz:RSz l)(h:RuleRow w v l):
  Calls Tryz.prog 42 #[v] w fun e w'=>e=.returned (.bool (rulesB l))∧Below w.heap.size w w':=by
 have HZ:Hid (RSz l):=hz
 clear hz
 rcases h with ⟨rfl,ao,cap,rfl⟩|⟨h0,g,off,cap,rfl,hg,hc⟩
 ·clear hl HZ
  go_enter Tryz.func42,Tryz.ntmps42
  go_wp2
  refine wp_loop_rounds 1 ?_
  rw[rounds_succ]
  go_wp2
  go_ret
  exact ⟨rfl,Below.refl _ _⟩
 have HC:Hid (∀i,i<l.length→ ∃p,w.cell? ⟨g,off+i*2,none⟩=some p∧StrRow w p (l.getD i rv0).ps∧w.cell? ⟨g,off+i*2+1,none⟩=some (.bool (l.getD i rv0).ex)):=hc
 clear hc
 go_enter Tryz.func42,Tryz.ntmps42
 go_wp2
 go_loopw[3,4] (fun i j wr=> ∃k:Nat,k≤l.length∧i=.int .i64 k∧Hid (∀j,j<k→newB l j=true)∧Below w.heap.size w wr) (fun i _ _=>l.length-(intOf i).toNat)
 case atStart=>exact ⟨0,Nat.zero_le _,rfl,fun j hj=>absurd hj (Nat.not_lt_zero _),Below.refl _ _⟩
 obtain ⟨k,hk,rfl,HN,hbel⟩:=hrel
 by_cases hlt:k<l.length
 ·obtain ⟨p,c1,c2,c3⟩:=HC.out k hlt
  have c1w:=(hbel.cell (p:=⟨g,off+k*2,none⟩) hg).trans c1
  have c3w:=(hbel.cell (p:=⟨g,off+k*2+1,none⟩) hg).trans c3
  have hki:(k:Int)<l.length:=by omega
  obtain ⟨hz1,hz2⟩:=rsz_at HZ.out hlt
  have CR:Hid (CB 70 #[.agg #[p,.bool (l.getD k rv0).ex]] wr (.bool (ruleB (l.getD k rv0)))):=specRule p (l.getD k rv0).ps (l.getD k rv0).ex wr (by omega) hz2 (c2.below hbel)
  have HNB:Hid (ruleB (l.getD k rv0)=false→newB l k=false):=newB_rule
  have HNT:Hid (ruleB (l.getD k rv0)=true→(∀j,j<k→sameB (l.getD j rv0) (l.getD k rv0)=false)→newB l k=true):=newB_of
  have HNS:Hid (∀j,j<k→sameB (l.getD j rv0) (l.getD k rv0)=true→newB l k=false):=fun j hj h=>newB_same hj h
  have C1:Hid (w.cell? ⟨g,off+k*2,none⟩=some p):=c1
  have C2:Hid (StrRow w p (l.getD k rv0).ps):=c2
  clear c1 c2 hz2
  generalize hr:l.getD k rv0=r at*
  clear hr
  generalize ruleB r=R at CR HNB HNT
  go_wp2_with fail
  refine CR.out.mono ?_
  rintro e w1 ⟨rfl,b1⟩
  have hb1:Below w.heap.size w w1:=hbel.trans (b1.mono hbel.size)
  clear b1 c1w c3w CR hbel
  cases R with
  |false=>
   have HF:Hid (rulesB l=false):=rulesB_not hlt (HNB.out rfl)
   clear HNB HNT HNS HN
   go_wp2_with fail
   go_ret
   exact ⟨ret_bool HF.out.symm,hb1⟩
  |true=>
   clear HNB
   go_wp2_with fail
   go_loopw[4] (fun i wr=> ∃j:Nat,j≤k∧i=.int .i64 j∧Hid (∀i,i<j→sameB (l.getD i rv0) r=false)∧Below w.heap.size w wr) (fun i _=>k-(intOf i).toNat)
   case atStart=>exact ⟨0,Nat.zero_le _,rfl,fun j hj=>absurd hj (Nat.not_lt_zero _),hb1⟩
   obtain ⟨j,hj,rfl,HS,hbel⟩:=hrel
   clear hb1
   by_cases hjk:j<k
   ·obtain ⟨q,d1,d2,d3⟩:=HC.out j (by omega)
    have hji:(j:Int)<k:=by omega
    have hjl:(j:Int)<l.length:=by omega
    have c1w:=(hbel.cell (p:=⟨g,off+k*2,none⟩) hg).trans C1.out
    have c3w:=(hbel.cell (p:=⟨g,off+k*2+1,none⟩) hg).trans c3
    have d1w:=(hbel.cell (p:=⟨g,off+j*2,none⟩) hg).trans d1
    have d3w:=(hbel.cell (p:=⟨g,off+j*2+1,none⟩) hg).trans d3
    obtain ⟨hz3,_⟩:=rsz_at HZ.out (show j<l.length by omega)
    have CS:Hid (∀n,Calls Tryz.prog 71 #[q,p] (wr.drewN n) fun e w'=>e=.returned (.bool (decide ((l.getD j rv0).ps=r.ps)))∧ ∃m,w'=(wr.drewN n).drewN m):=fun n=>specSameParts _ _ _ _ _ (by omega) (by omega) (d2.below (below_drewN hbel n)) (C2.out.below (below_drewN hbel n))
    have HSJ:Hid (sameB (l.getD j rv0) r=(((l.getD j rv0).ex==r.ex)&&decide ((l.getD j rv0).ps=r.ps))):=rfl
    have HNJ:Hid (sameB (l.getD j rv0) r=true→newB l k=false):=HNS.out j hjk
    have HST:Hid (sameB (l.getD j rv0) r=false→ ∀i,i<j+1→sameB (l.getD i rv0) r=false):=fun h i hi=>by
     by_cases hij:i<j
     ·exact HS.out i hij
     rw[show i=j by omega];exact h
    clear d1 d2 d3 HS
    generalize sameB (l.getD j rv0) r=S at HSJ HNJ HST
    generalize decide ((l.getD j rv0).ps=r.ps)=D at CS HSJ
    generalize (l.getD j rv0).ex=ej at d3w HSJ
    generalize r.ex=er at c3w c3 HSJ
    have hap:(ej=er∧D=true)∨(ej=er∧D=false)∨(ej==er)=false:=by
     cases ej<;>cases er<;>cases D<;>simp
    rcases hap with ⟨rfl,rfl⟩|⟨rfl,rfl⟩|hne
    ·have HF:Hid (rulesB l=false):=rulesB_not hlt (HNJ.out (HSJ.out.trans (by simp)))
     clear HNJ HSJ HST HNT HNS HN
     go_wp2_with fail
     go_quiet ((go_at_call 71;exact Calls.quiet_of (CS.out _)))
     go_wp2_with fail
     go_ret
     exact ⟨ret_bool HF.out.symm,below_drewN hbel _⟩
    ·have HS2:=HST.out (HSJ.out.trans (by simp))
     have HS3:Hid (∀i,i<j+1→sameB (l.getD i rv0) r=false):=HS2
     clear HNJ HSJ HST HS2
     go_wp2_with fail
     go_quiet ((go_at_call 71;exact Calls.quiet_of (CS.out _)))
     go_wp2_with fail
     go_roundw
     case rel=>exact ⟨j+1,by omega,by go_num,HS3,below_drewN hbel _⟩
     case measure=>simp[intOf];omega
    have HS2:=HST.out (HSJ.out.trans (by rw[hne];rfl))
    have HS3:Hid (∀i,i<j+1→sameB (l.getD i rv0) r=false):=HS2
    clear HNJ HSJ HST HS2
    go_wp2_with fail
    go_quiet ((go_at_call 71;exact Calls.quiet_of (CS.out _)))
    go_wp2_with fail
    go_roundw
    case rel=>exact ⟨j+1,by omega,by go_num,HS3,below_drewN hbel _⟩
    case measure=>simp[intOf];omega
   have hji: ¬(j:Int)<k:=by omega
   have HN2:Hid (∀i,i<k+1→newB l i=true):=fun i hi=>by
    by_cases hik:i<k
    ·exact HN.out i hik
    rw[show i=k by omega]
    exact HNT.out trivial (fun i hi=>HS.out i (by omega))
   clear HN HNT HS HNS
   go_wp2_with fail
   go_roundw
   case rel=>exact ⟨k+1,by omega,by go_num,HN2,hbel⟩
   case measure=>simp[intOf];omega
 have hki: ¬(k:Int)<l.length:=by omega
 have HE:Hid (rulesB l=decide (l.length≤60)):=rulesB_all fun i hi=>HN.out i (by omega)
 clear HN
 go_wp2
 go_ret
 exact ⟨ret_bool (by rw[HE.out];simp<;>omega),hbel⟩
end Go.Proofs.YtijliddchoehhaaGreatDoor
namespace Go.Proofs.YtijliddchoehhaaGreatDoor
open Go.RowKit
set_option linter.unusedVariables false
def lastP(r:RV):ByteArray:=r.ps.getD 0 ByteArray.empty
def byL(l:List RV)(s:ByteArray):List RV:=l.filter fun r=>decide (lastP r=s)
theorem byL_snoc{l:List RV}{k:Nat}(h:k<l.length)(s:ByteArray):byL (l.take (k+1)) s=if s=lastP (l.getD k rv0)then byL (l.take k) (lastP (l.getD k rv0))++[l.getD k rv0]else byL (l.take k) s:=by
 have e:l.getD k rv0=l[k]:=by rw[List.getD_eq_getElem?_getD,List.getElem?_eq_getElem h];rfl
 rw[e]
 unfold byL
 rw[List.take_succ_eq_append_getElem h,List.filter_append]
 by_cases hs:s=lastP l[k]
 ·rw[if_pos hs,hs];simp
 rw[if_neg hs]
 simp[Ne.symm hs]
theorem implLastPart(p:Value)(r:RV)(w:World)(hl:r.ps.length≤1099511627776)(h:StrRow w p r.ps):
  Calls Tryz.prog 88 #[.agg #[p,.bool r.ex]] w fun e w'=>e=.returned (.string (lastP r))∧Below w.heap.size w w':=by
 have HB:Hid (Below w.heap.size w (w.alloc (.cells #[p,.bool r.ex] 37))):=(Below.refl _ _).alloc (Nat.le_refl _) _
 rcases h with ⟨h0,ao,cap,rfl⟩|⟨h0,g,off,cap,rfl,hg,hc⟩
 ·have HL:Hid (lastP r=⟨#[]⟩):=by show _=_;unfold lastP;rw[h0];rfl
  go_enter Tryz.func88,Tryz.ntmps88
  go_wp2_with fail
  go_ret
  exact ⟨by rw[HL.out];rfl,HB.out⟩
 obtain ⟨O,hO⟩: ∃O,O=w.alloc (.cells #[.slice (some ⟨g,off,none⟩) r.ps.length (r.ps.length+cap),.bool r.ex] 37):=⟨_,rfl⟩
 rw[←hO]at HB
 have AO:BAt O w.heap.size [.slice (some ⟨g,off,none⟩) r.ps.length (r.ps.length+cap),.bool r.ex]:=by rw[hO];exact BAt.new w #[.slice (some ⟨g,off,none⟩) r.ps.length (r.ps.length+cap),.bool r.ex] _
 have c0:=AO.1 0 _ rfl
 have cx:O.cell? ⟨g,off,none⟩=some (.string (lastP r)):=(HB.out.cell (p:=⟨g,off+0,none⟩) hg).trans (hc 0 h0)
 have hn0:((r.ps.length:Int)==0)=false:=beq_eq_false_iff_ne.2 (by omega)
 have h0i:(0:Int)<(r.ps.length:Int):=by omega
 clear hc AO
 generalize lastP r=x at cx⊢
 generalize r.ps.length=n at*
 go_enter Tryz.func88,Tryz.ntmps88
 go_upto_region 1 with fail
 rw[←hO]
 clear hO
 go_wp2_with fail
 go_ret
 exact ⟨rfl,HB.out⟩
theorem implByLast(l:List RV)(v:Value)(w:World)(hl:l.length≤1048576)(hz:RSz l)(h:RuleRow w v l):
  Calls Tryz.prog 53 #[v] w fun e w'=>e=.returned (.map (some w.heap.size))∧(∃S,RMap w w' (w.heap.size+1) w.heap.size l.length S (byL l))∧Below w.heap.size w w':=by
 have HZ:Hid (RSz l):=hz
 have HROW:Hid (RuleRow w v l):=h
 obtain ⟨ao,cap,rfl⟩:=h.slice
 clear hz h
 have HM0:Hid (RMap w (w.alloc (.map #[] 0)) (w.heap.size+1) w.heap.size 0 (fun _=> .slice none 0 0) (byL (l.take 0))):=by
  have:=RMap.made w w
  exact this
 have b0:Below w.heap.size w (w.alloc (.map #[] 0)):=(Below.refl _ _).alloc (Nat.le_refl _) _
 have hmm:= @run_makeMap Tryz.prog
 go_enter Tryz.func53,Tryz.ntmps53
 go_wp2_with fail
 clear hmm
 go_loopw[10] (fun i wr=> ∃(k:Nat) (S:ByteArray→Value),k≤l.length∧i=.int .i64 k∧Hid (RMap w wr (w.heap.size+1) w.heap.size k S (byL (l.take k)))∧Below w.heap.size w wr) (fun i _=>l.length-(intOf i).toNat)
 case atStart=>exact ⟨0,_,Nat.zero_le _,rfl,HM0,b0⟩
 obtain ⟨k,S,hk,rfl,HM,hbel⟩:=hrel
 clear HM0 b0
 by_cases hlt:k<l.length
 ·have hki:(k:Int)<l.length:=by omega
  obtain ⟨g,off,p,cc,hv,hg,c1,c2,c3⟩: ∃g off p cc,Value.slice ao l.length cap=.slice (some ⟨g,off,none⟩) l.length cc∧g<w.heap.size∧w.cell? ⟨g,off+k*2,none⟩=some p∧StrRow w p (l.getD k rv0).ps∧w.cell? ⟨g,off+k*2+1,none⟩=some (.bool (l.getD k rv0).ex):=by
   rcases HROW.out with ⟨h,_⟩|⟨_,g,off,cc,h1,h2,h3⟩
   ·rw[h]at hlt;simp at hlt
   obtain ⟨p,q1,q2,q3⟩:=h3 k hlt
   exact ⟨g,off,p,_,h1,h2,q1,q2,q3⟩
  have c1w:=(hbel.cell (p:=⟨g,off+k*2,none⟩) hg).trans c1
  have c3w:=(hbel.cell (p:=⟨g,off+k*2+1,none⟩) hg).trans c3
  obtain ⟨hz1,hz2⟩:=rsz_at HZ.out hlt
  have C2:Hid (StrRow w p (l.getD k rv0).ps):=c2
  have HBS:Hid (∀s,byL (l.take (k+1)) s=if s=lastP (l.getD k rv0)then byL (l.take k) (lastP (l.getD k rv0))++[l.getD k rv0]else byL (l.take k) s):=fun s=>byL_snoc hlt s
  have hlp:(lastP (l.getD k rv0)).size≤maxLen:=by
   unfold lastP maxLen
   cases hps:(l.getD k rv0).ps with
   |nil=>simp
   |cons x xs=>have:=hz2 x (by rw[hps];simp);show x.size≤_;omega
  cases hv
  clear c1 c2 c3 hz2
  generalize l.getD k rv0=r at*
  obtain ⟨po,pcap,hpo⟩:=C2.out.slice
  subst hpo
  have CL:Hid (∀W,Below w.heap.size w W→CB 88 #[.agg #[.slice po r.ps.length pcap,.bool r.ex]] W (.string (lastP r))):=fun W hW=>implLastPart _ r W (by omega) (C2.out.below hW)
  generalize hnp:r.ps.length=np at*
  have HNP:Hid (r.ps.length=np):=hnp
  clear hnp
  go_upto_region 5 with fail
  obtain ⟨O,hO⟩: ∃O,O=wr.alloc (.cells #[.slice po np pcap,.bool r.ex] 37):=⟨_,rfl⟩
  have bO:Below wr.heap.size wr O:=by rw[hO];exact (Below.refl _ _).alloc (Nat.le_refl _) _
  have AO:BAt O wr.heap.size [.slice po np pcap,.bool r.ex]:=by rw[hO];exact BAt.new wr #[.slice po np pcap,.bool r.ex] _
  have BO:=hbel.trans (bO.mono hbel.size)
  have HMO:Hid (RMap w O (w.heap.size+1) w.heap.size k S (byL (l.take k))):=HM.out.below bO
  have d0:=AO.1 0 _ rfl
  have d1:=AO.1 1 _ rfl
  rw[←hO]
  clear hO c1w c3w bO HM hbel
  go_wp2_with fail
  refine (CL.out _ BO).mono ?_
  rintro e w1 ⟨rfl,b1⟩
  have A1:=AO.below b1
  have B1:=BO.trans (b1.mono BO.size)
  have HM1:Hid (RMap w w1 (w.heap.size+1) w.heap.size k S (byL (l.take k))):=HMO.out.below b1
  clear CL AO BO HMO d0 d1 b1
  have d0:=A1.1 0 _ rfl
  have d1:=A1.1 1 _ rfl
  generalize lastP r=s0 at*
  have hlook:=HM1.out.look s0 hlp
  obtain ⟨D,hm,hI,hbb,hA,hG,hP⟩:=HM1.out
  obtain ⟨vs,q1,q2⟩:=hG s0
  have hvl:vs.length=(byL (l.take k) s0).length*2:=q1.1
  have hfl:(byL (l.take k) s0).length≤1048576:=by
   unfold byL
   have:=List.length_filter_le (fun r=>decide (lastP r=s0)) (l.take k)
   rw[List.length_take]at this
   omega
  have hX:=hidden (And.intro hI (And.intro hbb (And.intro hA (And.intro hG (And.intro hP q2)))))
  have hblk:some w.heap.size≠(S s0).ownBlock:=fun e=>by have:=(q1.lt _ e.symm).1;omega
  clear hI hbb hA hG hP q2 HM1
  have hzB:w.heap.size+1≤w1.heap.size:=by have:=hm.lt;omega
  go_wp2_with (at_builtin;refine wpList_append_rule _ rfl _ _ 24 rfl (w.heap.size+1) 37 (.agg #[.slice none 0 0,.bool false]) 32 Tryz.underlying24 Tryz.infoRule rfl _ _ _ rfl q1 (.slice po np pcap) (.bool r.ex) rfl rfl rfl (by omega) (by unfold maxLen;omega) hzB ?_)
  intro v' w2 o2 g2 hat
  have og:GR w w2 (w.heap.size+1) v' (byL (l.take k) s0++[r]):=GR.snoc hvl hX.out.2.2.2.2.2 o2 C2.out
  obtain ⟨d,hd⟩:=og.reads
  have hm2:=hm.kept g2 hblk
  have B2:Below w.heap.size w w2:=B1.grown g2 B1.size (fun b hb=>by have:=(q1.lt b hb).1;omega)
  have OG:=hidden og
  clear og o2 hlook q1
  go_wp2_with (at_mapUpdate;refine wpList_mapUpdate_own _ rfl _ _ _ 97 rfl 9 24 (Maps.string_keyed Tryz.underlying9) Tryz.underlying97 sliceD w.heap.size k D rfl hm2 (by unfold maxLen;omega) _ _ (.string s0.data.toList) rfl rfl (WideMaps.keyOf_string_mk Tryz.underlying9 hlp) d [] hd ?_)
  intro w3 hm3 g3
  have RM:=RMap.put hX.out.1 hX.out.2.1 hX.out.2.2.1 hX.out.2.2.2.1 hX.out.2.2.2.2.1 g2 OG.out hat hd hm3 g3
  have B3:Below w.heap.size w w3:=B2.grown g3 B2.size (fun b hb=>by cases hb;exact Nat.le_refl _)
  have HRM:Hid (RMap w w3 (w.heap.size+1) w.heap.size (k+1) (fun s=>if s=s0 then v' else S s) (byL (l.take (k+1)))):=by
   rw[show byL (l.take (k+1))=(fun s=>if s=s0 then byL (l.take k) s0++[r]else byL (l.take k) s) from funext HBS.out]
   exact RM
  clear RM hX OG hm3 g3 hm2 g2 hat hd hm A1 d0 d1 B1 B2 HBS
  go_wp2_with fail
  go_roundw
  case rel=>exact ⟨k+1,_,by omega,by go_num,HRM,B3⟩
  case measure=>simp[intOf];omega
 have hki: ¬(k:Int)<l.length:=by omega
 have HE:Hid (RMap w wr (w.heap.size+1) w.heap.size l.length S (byL l)):=by
  have:=HM.out
  rwa[show k=l.length by omega,List.take_length]at this
 clear HM HROW
 go_wp2_with fail
 go_ret
 exact ⟨rfl,⟨S,HE.out⟩,hbel⟩
def fitAt(r:RV)(ps:List ByteArray)(i:Nat):Bool:=decide ((r.ps.getD i ByteArray.empty).data.toList=[42])||decide (r.ps.getD i ByteArray.empty=ps.getD i ByteArray.empty)
theorem fitsP_yes{r:RV}{ps:List ByteArray}(hl:r.ps.length≤ps.length)(h: ∀i,i<r.ps.length→fitAt r ps i=true):fitsP r ps=true:=by
 unfold fitsP
 rw[decide_eq_true hl,Bool.true_and]
 exact all_range.2 h
theorem fitsP_no{r:RV}{ps:List ByteArray}{i:Nat}(hi:i<r.ps.length)(h:fitAt r ps i=false):fitsP r ps=false:=by
 cases hf:fitsP r ps with
 |false=>rfl
 |true=>
  unfold fitsP at hf
  simp only[Bool.and_eq_true]at hf
  have:=all_range.1 hf.2 i hi
  unfold fitAt at h
  rw[h]at this
  cases this
theorem StrRow.tail{w:World}{g off n c:Nat}{x:ByteArray}{l:List ByteArray}(hn:n=l.length)(h:StrRow w (.slice (some ⟨g,off,none⟩) (n+1) (n+1+c)) (x::l)):StrRow w (.slice (some ⟨g,off+1,none⟩) n (n+c)) l:=by
 subst hn
 rcases h with ⟨h,_⟩|⟨_,g',off',cap',h1,h2,h3⟩
 ·cases h
 injection h1 with e1 e2 e3
 injection e1 with e1
 injection e1 with e4 e5
 subst e4 e5
 by_cases h0:l.length=0
 ·have:l=[]:=List.eq_nil_of_length_eq_zero h0
  subst this
  exact .inl ⟨rfl,_,_,rfl⟩
 refine .inr ⟨by omega,g,off+1,c,rfl,h2,fun i hi=> ?_⟩
 have:=h3 (i+1) (by simp;omega)
 rw[show off+1+i=off+(i+1) by omega,this]
 rfl
theorem held_result2{fn:Func}{q r:Tmp}(h:fn.results= #[.cell q 65,.tmp r])(tmps:Array Value)(W:World)(B:Nat)(a b c:Value)
  (hp:tmps[q]?.getD undef=.pointer (some ⟨B,0,none⟩)) (hr:tmps[r]?.getD undef=c) (ha:BAt W B [a,b]):(results fn tmps).run Tryz.prog W=.ok (.tuple #[.agg #[a,b],c]) W:=by
 have c0:=ha.1 0 _ rfl
 have c1:=ha.1 1 _ rfl
 simp[results,h,hp,hr,asAddr,go_sem,c0,c1,Addr.add_lit]
def fitO(x y:ByteArray):Bool:=decide (x.data.toList=[42])||decide (x=y)
theorem implPartMore_yes(g off n c g' off' n' c':Nat)(x y:ByteArray)(rs ps:List ByteArray)(w0 w:World)(hw:Below w0.heap.size w0 w)(hn:n=rs.length)(hn':n'=ps.length)(hl:n≤1099511627776)(hl':n'≤1099511627776)(hf:fitO x y=true)
  (h1:StrRow w0 (.slice (some ⟨g,off,none⟩) (n+1) (n+1+c)) (x::rs)) (h2:StrRow w0 (.slice (some ⟨g',off',none⟩) (n'+1) (n'+1+c')) (y::ps)):
  Calls Tryz.prog 31 #[.agg #[.slice (some ⟨g,off,none⟩) (n+1) (n+1+c),.slice (some ⟨g',off',none⟩) (n'+1) (n'+1+c')]] w fun e w'=>
   ∃va vb,e=.returned (.tuple #[.agg #[va,vb],.bool true])∧StrRow w0 va rs∧StrRow w0 vb ps∧Below w.heap.size w w':=by
 have HT1:Hid (StrRow w0 (.slice (some ⟨g,off+1,none⟩) n (n+c)) rs):=StrRow.tail hn h1
 have HT2:Hid (StrRow w0 (.slice (some ⟨g',off'+1,none⟩) n' (n'+c')) ps):=StrRow.tail hn' h2
 have HZ1:Hid (n=0→ ∀a k,StrRow w0 (.slice a n k) rs):=fun h a k=> .inl ⟨List.eq_nil_of_length_eq_zero (by omega),_,_,by rw[h]⟩
 have HZ2:Hid (n'=0→ ∀a k,StrRow w0 (.slice a n' k) ps):=fun h a k=> .inl ⟨List.eq_nil_of_length_eq_zero (by omega),_,_,by rw[h]⟩
 obtain ⟨O,hO⟩: ∃O,O=(w.alloc (.cells #[.slice (some ⟨g,off,none⟩) (n+1) (n+1+c),.slice (some ⟨g',off',none⟩) (n'+1) (n'+1+c')] 65)).alloc (.cells #[.slice none 0 0,.slice none 0 0] 65):=⟨_,rfl⟩
 have bO:Below w.heap.size w O:=by rw[hO];exact ((Below.refl _ _).alloc (Nat.le_refl _) _).alloc (by simp) _
 have A0:BAt O w.heap.size [.slice (some ⟨g,off,none⟩) (n+1) (n+1+c),.slice (some ⟨g',off',none⟩) (n'+1) (n'+1+c')]:=by
  rw[hO]
  exact (BAt.new w #[.slice (some ⟨g,off,none⟩) (n+1) (n+1+c),.slice (some ⟨g',off',none⟩) (n'+1) (n'+1+c')] _).alloc _
 have A1:BAt O (w.heap.size+1) [.slice none 0 0,.slice none 0 0]:=by
  rw[hO]
  have:=BAt.new (w.alloc (.cells #[.slice (some ⟨g,off,none⟩) (n+1) (n+1+c),.slice (some ⟨g',off',none⟩) (n'+1) (n'+1+c')] 65)) #[.slice none 0 0,.slice none 0 0] 65
  rw[World.size_alloc]at this
  exact this
 have cx:O.cell? ⟨g,off,none⟩=some (.string x):=by
  rcases (h1.below hw).below bO with ⟨h,_⟩|⟨_,g1,o1,cap1,e1,_,h3⟩
  ·cases h
  injection e1 with e1 _ _
  injection e1 with e1
  injection e1 with e4 e5
  subst e4 e5
  exact h3 0 (by simp)
 have cy:O.cell? ⟨g',off',none⟩=some (.string y):=by
  rcases (h2.below hw).below bO with ⟨h,_⟩|⟨_,g1,o1,cap1,e1,_,h3⟩
  ·cases h
  injection e1 with e1 _ _
  injection e1 with e1
  injection e1 with e4 e5
  subst e4 e5
  exact h3 0 (by simp)
 have hcase:(x.toList==[42])=true∨((x.toList==[42])=false∧x=y):=by
  rw[lit_eq]
  unfold fitO at hf
  simp only[Bool.or_eq_true,decide_eq_true_eq]at hf
  by_cases h:x.data.toList=[42]
  ·exact .inl (decide_eq_true h)
  exact .inr ⟨decide_eq_false h,hf.resolve_left h⟩
 have c0:=A0.1 0 _ rfl
 have c1:=A0.1 1 _ rfl
 have r0:=A1.1 0 _ rfl
 have r1:=A1.1 1 _ rfl
 have f1:=A1.2.1
 have hn0:((n':Int)+1==0)=false:=beq_eq_false_iff_ne.2 (by omega)
 clear hn hn' hf h1 h2 hw
 go_enter Tryz.func31,Tryz.ntmps31
 go_upto_region 1 with fail
 rw[←hO]
 clear hO
 rcases hcase with hx|⟨hx,rfl⟩
 ·skip
  go_quiet (fail)
  go_wp2_with fail
  have s1:(1:Int)≤(n:Int)+1:=by omega
  have s2:(1:Int)≤(n':Int)+1:=by omega
  have s3:(n:Int)+1≤(n:Int)+1+c:=by omega
  have s4:(n':Int)+1≤(n':Int)+1+c':=by omega
  by_cases z1:n+1+c=1
  ·obtain ⟨rfl,rfl⟩:n=0∧c=0:=by omega
   have SA:=HZ1.out rfl (some ⟨g,off,none⟩) 0
   by_cases z2:n'+1+c'=1
   ·obtain ⟨rfl,rfl⟩:n'=0∧c'=0:=by omega
    have SB:=HZ2.out rfl (some ⟨g',off',none⟩) 0
    go_region_with (fail)
    all_goals
     go_wp2_with fail
     have BD:=(((below_drewN bO (nq+1)).setCell (p:=⟨w.heap.size+1,0,none⟩) (by simp) (.slice (some ⟨g,off,none⟩) 0 0)).setCell (p:=⟨w.heap.size+1,1,none⟩) (by simp) (.slice (some ⟨g',off',none⟩) 0 0))
     exact bodyPost_ret (held_result2 rfl _ _ (w.heap.size+1) (.slice (some ⟨g,off,none⟩) 0 0) (.slice (some ⟨g',off',none⟩) 0 0) (.bool true) rfl rfl (((A1.below (below_drewN (Below.refl _ _) (nq+1))).set 0 (by simp) _).set 1 (by simp) _)) rfl ⟨_,_,rfl,SA,SB,BD⟩
   have SB:=HT2.out
   go_region_with (fail)
   all_goals
    go_wp2_with fail
    have BD:=(((below_drewN bO (nq+1)).setCell (p:=⟨w.heap.size+1,0,none⟩) (by simp) (.slice (some ⟨g,off,none⟩) 0 0)).setCell (p:=⟨w.heap.size+1,1,none⟩) (by simp) (.slice (some ⟨g',(off'+1),none⟩) n' (n'+c')))
    exact bodyPost_ret (held_result2 rfl _ _ (w.heap.size+1) (.slice (some ⟨g,off,none⟩) 0 0) (.slice (some ⟨g',(off'+1),none⟩) n' (n'+c')) (.bool true) rfl rfl (((A1.below (below_drewN (Below.refl _ _) (nq+1))).set 0 (by simp) _).set 1 (by simp) _)) rfl ⟨_,_,rfl,SA,SB,BD⟩
  have SA:=HT1.out
  by_cases z2:n'+1+c'=1
  ·obtain ⟨rfl,rfl⟩:n'=0∧c'=0:=by omega
   have SB:=HZ2.out rfl (some ⟨g',off',none⟩) 0
   go_region_with (fail)
   all_goals
    go_wp2_with fail
    have BD:=(((below_drewN bO (nq+1)).setCell (p:=⟨w.heap.size+1,0,none⟩) (by simp) (.slice (some ⟨g,(off+1),none⟩) n (n+c))).setCell (p:=⟨w.heap.size+1,1,none⟩) (by simp) (.slice (some ⟨g',off',none⟩) 0 0))
    exact bodyPost_ret (held_result2 rfl _ _ (w.heap.size+1) (.slice (some ⟨g,(off+1),none⟩) n (n+c)) (.slice (some ⟨g',off',none⟩) 0 0) (.bool true) rfl rfl (((A1.below (below_drewN (Below.refl _ _) (nq+1))).set 0 (by simp) _).set 1 (by simp) _)) rfl ⟨_,_,rfl,SA,SB,BD⟩
  have SB:=HT2.out
  go_region_with (fail)
  all_goals
   go_wp2_with fail
   have BD:=(((below_drewN bO (nq+1)).setCell (p:=⟨w.heap.size+1,0,none⟩) (by simp) (.slice (some ⟨g,(off+1),none⟩) n (n+c))).setCell (p:=⟨w.heap.size+1,1,none⟩) (by simp) (.slice (some ⟨g',(off'+1),none⟩) n' (n'+c')))
   exact bodyPost_ret (held_result2 rfl _ _ (w.heap.size+1) (.slice (some ⟨g,(off+1),none⟩) n (n+c)) (.slice (some ⟨g',(off'+1),none⟩) n' (n'+c')) (.bool true) rfl rfl (((A1.below (below_drewN (Below.refl _ _) (nq+1))).set 0 (by simp) _).set 1 (by simp) _)) rfl ⟨_,_,rfl,SA,SB,BD⟩
 skip
 go_quiet (fail)
 go_wp2_with fail
 have s1:(1:Int)≤(n:Int)+1:=by omega
 have s2:(1:Int)≤(n':Int)+1:=by omega
 have s3:(n:Int)+1≤(n:Int)+1+c:=by omega
 have s4:(n':Int)+1≤(n':Int)+1+c':=by omega
 by_cases z1:n+1+c=1
 ·obtain ⟨rfl,rfl⟩:n=0∧c=0:=by omega
  have SA:=HZ1.out rfl (some ⟨g,off,none⟩) 0
  by_cases z2:n'+1+c'=1
  ·obtain ⟨rfl,rfl⟩:n'=0∧c'=0:=by omega
   have SB:=HZ2.out rfl (some ⟨g',off',none⟩) 0
   go_region_with (fail)
   all_goals
    go_wp2_with fail
    have BD:=(((below_drewN bO (nq+1)).setCell (p:=⟨w.heap.size+1,0,none⟩) (by simp) (.slice (some ⟨g,off,none⟩) 0 0)).setCell (p:=⟨w.heap.size+1,1,none⟩) (by simp) (.slice (some ⟨g',off',none⟩) 0 0))
    exact bodyPost_ret (held_result2 rfl _ _ (w.heap.size+1) (.slice (some ⟨g,off,none⟩) 0 0) (.slice (some ⟨g',off',none⟩) 0 0) (.bool true) rfl rfl (((A1.below (below_drewN (Below.refl _ _) (nq+1))).set 0 (by simp) _).set 1 (by simp) _)) rfl ⟨_,_,rfl,SA,SB,BD⟩
  have SB:=HT2.out
  go_region_with (fail)
  all_goals
   go_wp2_with fail
   have BD:=(((below_drewN bO (nq+1)).setCell (p:=⟨w.heap.size+1,0,none⟩) (by simp) (.slice (some ⟨g,off,none⟩) 0 0)).setCell (p:=⟨w.heap.size+1,1,none⟩) (by simp) (.slice (some ⟨g',(off'+1),none⟩) n' (n'+c')))
   exact bodyPost_ret (held_result2 rfl _ _ (w.heap.size+1) (.slice (some ⟨g,off,none⟩) 0 0) (.slice (some ⟨g',(off'+1),none⟩) n' (n'+c')) (.bool true) rfl rfl (((A1.below (below_drewN (Below.refl _ _) (nq+1))).set 0 (by simp) _).set 1 (by simp) _)) rfl ⟨_,_,rfl,SA,SB,BD⟩
 have SA:=HT1.out
 by_cases z2:n'+1+c'=1
 ·obtain ⟨rfl,rfl⟩:n'=0∧c'=0:=by omega
  have SB:=HZ2.out rfl (some ⟨g',off',none⟩) 0
  go_region_with (fail)
  all_goals
   go_wp2_with fail
   have BD:=(((below_drewN bO (nq+1)).setCell (p:=⟨w.heap.size+1,0,none⟩) (by simp) (.slice (some ⟨g,(off+1),none⟩) n (n+c))).setCell (p:=⟨w.heap.size+1,1,none⟩) (by simp) (.slice (some ⟨g',off',none⟩) 0 0))
   exact bodyPost_ret (held_result2 rfl _ _ (w.heap.size+1) (.slice (some ⟨g,(off+1),none⟩) n (n+c)) (.slice (some ⟨g',off',none⟩) 0 0) (.bool true) rfl rfl (((A1.below (below_drewN (Below.refl _ _) (nq+1))).set 0 (by simp) _).set 1 (by simp) _)) rfl ⟨_,_,rfl,SA,SB,BD⟩
 have SB:=HT2.out
 go_region_with (fail)
 all_goals
  go_wp2_with fail
  have BD:=(((below_drewN bO (nq+1)).setCell (p:=⟨w.heap.size+1,0,none⟩) (by simp) (.slice (some ⟨g,(off+1),none⟩) n (n+c))).setCell (p:=⟨w.heap.size+1,1,none⟩) (by simp) (.slice (some ⟨g',(off'+1),none⟩) n' (n'+c')))
  exact bodyPost_ret (held_result2 rfl _ _ (w.heap.size+1) (.slice (some ⟨g,(off+1),none⟩) n (n+c)) (.slice (some ⟨g',(off'+1),none⟩) n' (n'+c')) (.bool true) rfl rfl (((A1.below (below_drewN (Below.refl _ _) (nq+1))).set 0 (by simp) _).set 1 (by simp) _)) rfl ⟨_,_,rfl,SA,SB,BD⟩
theorem implPartMore_end(pv:Value)(rs:List ByteArray)(ao:Option Addr)(c:Nat)(w:World)(h:StrRow w pv rs):
  Calls Tryz.prog 31 #[.agg #[pv,.slice ao 0 c]] w fun e w'=> ∃(a b:Option Addr) (n1 c1 n2 c2:Nat),e=.returned (.tuple #[.agg #[.slice a n1 c1,.slice b n2 c2],.bool false])∧Below w.heap.size w w':=by
 obtain ⟨po,pc,rfl⟩:=h.slice
 clear h
 generalize rs.length=n
 obtain ⟨O,hO⟩: ∃O,O=(w.alloc (.cells #[(.slice po n pc),(.slice ao 0 c)] 65)).alloc (.cells #[.slice none 0 0,.slice none 0 0] 65):=⟨_,rfl⟩
 have bO:Below w.heap.size w O:=by rw[hO];exact ((Below.refl _ _).alloc (Nat.le_refl _) _).alloc (by simp) _
 have A0:BAt O w.heap.size [(.slice po n pc),(.slice ao 0 c)]:=by
  rw[hO]
  exact (BAt.new w #[(.slice po n pc),(.slice ao 0 c)] _).alloc _
 have A1:BAt O (w.heap.size+1) [.slice none 0 0,.slice none 0 0]:=by
  rw[hO]
  have:=BAt.new (w.alloc (.cells #[(.slice po n pc),(.slice ao 0 c)] 65)) #[.slice none 0 0,.slice none 0 0] 65
  rw[World.size_alloc]at this
  exact this
 have c0:=A0.1 0 _ rfl
 have c1:=A0.1 1 _ rfl
 have r0:=A1.1 0 _ rfl
 have r1:=A1.1 1 _ rfl
 have f1:=A1.2.1
 go_enter Tryz.func31,Tryz.ntmps31
 go_upto_region 1 with fail
 rw[←hO]
 clear hO
 go_quiet (fail)
 go_wp2_with fail
 have BD:=(((below_drewN bO nq).setCell (p:=⟨w.heap.size+1,0,none⟩) (by simp) (.slice po n pc)).setCell (p:=⟨w.heap.size+1,1,none⟩) (by simp) (.slice ao 0 c))
 exact bodyPost_ret (held_result2 rfl _ _ (w.heap.size+1) (.slice po n pc) (.slice ao 0 c) (.bool false) rfl rfl (((A1.below (below_drewN (Below.refl _ _) nq)).set 0 (by simp) _).set 1 (by simp) _)) rfl ⟨_,_,_,_,_,_,rfl,BD⟩
theorem implPartMore_no(g off n c g' off' n' c':Nat)(x y:ByteArray)(rs ps:List ByteArray)(w:World)(hl:n≤1099511627776)(hl':n'≤1099511627776)(hf:fitO x y=false)
  (h1:StrRow w (.slice (some ⟨g,off,none⟩) (n+1) (n+1+c)) (x::rs)) (h2:StrRow w (.slice (some ⟨g',off',none⟩) (n'+1) (n'+1+c')) (y::ps)):
  Calls Tryz.prog 31 #[.agg #[.slice (some ⟨g,off,none⟩) (n+1) (n+1+c),.slice (some ⟨g',off',none⟩) (n'+1) (n'+1+c')]] w fun e w'=>
   ∃(a b:Option Addr) (n1 c1 n2 c2:Nat),e=.returned (.tuple #[.agg #[.slice a n1 c1,.slice b n2 c2],.bool false])∧Below w.heap.size w w':=by
 obtain ⟨O,hO⟩: ∃O,O=(w.alloc (.cells #[(.slice (some ⟨g,off,none⟩) (n+1) (n+1+c)),(.slice (some ⟨g',off',none⟩) (n'+1) (n'+1+c'))] 65)).alloc (.cells #[.slice none 0 0,.slice none 0 0] 65):=⟨_,rfl⟩
 have bO:Below w.heap.size w O:=by rw[hO];exact ((Below.refl _ _).alloc (Nat.le_refl _) _).alloc (by simp) _
 have A0:BAt O w.heap.size [(.slice (some ⟨g,off,none⟩) (n+1) (n+1+c)),(.slice (some ⟨g',off',none⟩) (n'+1) (n'+1+c'))]:=by
  rw[hO]
  exact (BAt.new w #[(.slice (some ⟨g,off,none⟩) (n+1) (n+1+c)),(.slice (some ⟨g',off',none⟩) (n'+1) (n'+1+c'))] _).alloc _
 have A1:BAt O (w.heap.size+1) [.slice none 0 0,.slice none 0 0]:=by
  rw[hO]
  have:=BAt.new (w.alloc (.cells #[(.slice (some ⟨g,off,none⟩) (n+1) (n+1+c)),(.slice (some ⟨g',off',none⟩) (n'+1) (n'+1+c'))] 65)) #[.slice none 0 0,.slice none 0 0] 65
  rw[World.size_alloc]at this
  exact this
 have c0:=A0.1 0 _ rfl
 have c1:=A0.1 1 _ rfl
 have r0:=A1.1 0 _ rfl
 have r1:=A1.1 1 _ rfl
 have f1:=A1.2.1
 have cx:O.cell? ⟨g,off,none⟩=some (.string x):=by
  rcases h1.below bO with ⟨h,_⟩|⟨_,g1,o1,cap1,e1,_,h3⟩
  ·cases h
  injection e1 with e1 _ _
  injection e1 with e1
  injection e1 with e4 e5
  subst e4 e5
  exact h3 0 (by simp)
 have cy:O.cell? ⟨g',off',none⟩=some (.string y):=by
  rcases h2.below bO with ⟨h,_⟩|⟨_,g1,o1,cap1,e1,_,h3⟩
  ·cases h
  injection e1 with e1 _ _
  injection e1 with e1
  injection e1 with e4 e5
  subst e4 e5
  exact h3 0 (by simp)
 unfold fitO at hf
 simp only[Bool.or_eq_false_iff,decide_eq_false_iff_not]at hf
 have hx:(x.toList==[42])=false:=by rw[lit_eq,decide_eq_false hf.1]
 have hxy:=str_ne hf.2
 have hn0:((n':Int)+1==0)=false:=beq_eq_false_iff_ne.2 (by omega)
 clear hf h1 h2
 go_enter Tryz.func31,Tryz.ntmps31
 go_upto_region 1 with fail
 rw[←hO]
 clear hO
 go_quiet (fail)
 go_wp2_with fail
 have BD:=(((below_drewN bO nq).setCell (p:=⟨w.heap.size+1,0,none⟩) (by simp) (.slice (some ⟨g,off,none⟩) (n+1) (n+1+c))).setCell (p:=⟨w.heap.size+1,1,none⟩) (by simp) (.slice (some ⟨g',off',none⟩) (n'+1) (n'+1+c')))
 exact bodyPost_ret (held_result2 rfl _ _ (w.heap.size+1) (.slice (some ⟨g,off,none⟩) (n+1) (n+1+c)) (.slice (some ⟨g',off',none⟩) (n'+1) (n'+1+c')) (.bool false) rfl rfl (((A1.below (below_drewN (Below.refl _ _) nq)).set 0 (by simp) _).set 1 (by simp) _)) rfl ⟨_,_,_,_,_,_,rfl,BD⟩
end Go.Proofs.YtijliddchoehhaaGreatDoor
