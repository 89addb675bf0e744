/- FitsImpl2, PartsMore, SufImpl2, TrimWalk. -/
import Derived.Test.YtijliddchoehhaaGreatDoorQA08
import Derived.Lib.SlTrimSet
set_option maxHeartbeats 8000000
namespace Go.Proofs.YtijliddchoehhaaGreatDoor
open Go.RowKit
set_option linter.unusedVariables false
theorem drop_first{l:List ByteArray}{k:Nat}(h:k<l.length):l.drop k=l.getD k ByteArray.empty::l.drop (k+1):=by
 rw[List.drop_eq_getElem_cons h,List.getD_eq_getElem?_getD,List.getElem?_eq_getElem h]
 rfl
theorem StrRow.head{w:World}{v:Value}{x:ByteArray}{l:List ByteArray}(h:StrRow w v (x::l)): ∃g off c,v=.slice (some ⟨g,off,none⟩) (l.length+1) (l.length+1+c):=by
 rcases h with ⟨h,_⟩|⟨_,g,off,c,h1,_⟩
 ·cases h
 exact ⟨g,off,c,h1⟩
theorem StrRow.none{w:World}{v:Value}(h:StrRow w v []): ∃ao c,v=.slice ao 0 c:=by
 rcases h with ⟨_,ao,c,h⟩|⟨h,_⟩
 ·exact ⟨ao,c,h⟩
 simp at h
theorem implWhole(p v:Value)(r:RV)(ps:List ByteArray)(w:World)(hl:r.ps.length≤1099511627776)(hl2:ps.length≤1099511627776)(h:StrRow w p r.ps)(hv:StrRow w v ps):
  Calls Tryz.prog 30 #[.agg #[p,v],.func (.func 31) #[] #[]] w fun e w'=>e=.returned (.bool (fitsP r ps))∧Below w.heap.size w w':=by
 obtain ⟨O,hO⟩: ∃O,O=w.alloc (.cells #[p,v] 65):=⟨_,rfl⟩
 have bO:Below w.heap.size w O:=by rw[hO];exact (Below.refl _ _).alloc (Nat.le_refl _) _
 have AO:BAt O w.heap.size [p,v]:=by rw[hO];exact BAt.new w #[p,v] _
 have HP:Hid (StrRow w p r.ps):=h
 have HV:Hid (StrRow w v ps):=hv
 have HNF:Hid (∀k,k<r.ps.length→fitO (r.ps.getD k ByteArray.empty) (ps.getD k ByteArray.empty)=false→fitsP r ps=false):=fun k hk h=>fitsP_no hk h
 have HNL:Hid (ps.length<r.ps.length→fitsP r ps=false):=fun h=>by
  unfold fitsP
  rw[decide_eq_false (by omega)]
  rfl
 have HY:Hid (r.ps.length≤ps.length→(∀j,j<r.ps.length→fitAt r ps j=true)→fitsP r ps=true):=fun h1 h2=>fitsP_yes h1 h2
 have HF:Hid (∀j,fitAt r ps j=fitO (r.ps.getD j ByteArray.empty) (ps.getD j ByteArray.empty)):=fun j=>rfl
 generalize fitAt r ps=fit at HY HF
 generalize fitsP r ps=F at HNF HNL HY⊢
 generalize r.ps=rs at*
 obtain ⟨po,pc,rfl⟩:=h.slice
 obtain ⟨vo,vc,rfl⟩:=hv.slice
 clear h hv
 have c0:=AO.1 0 _ rfl
 have c1:=AO.1 1 _ rfl
 have HAO:Hid (BAt O w.heap.size [.slice po rs.length pc,.slice vo ps.length vc]):=AO
 clear AO
 go_enter Tryz.func30,Tryz.ntmps30
 go_upto_region 1 with fail
 rw[←hO]
 clear hO
 go_wp2_with fail
 go_loopw[10] (fun i wr=> ∃(k:Nat) (pv vv:Value),k≤rs.length∧k≤ps.length∧i=.int .i64 k∧Hid (BAt wr w.heap.size [pv,vv])∧Hid (StrRow w pv (rs.drop k))∧Hid (StrRow w vv (ps.drop k))∧Hid (∀j,j<k→fit j=true)∧Below w.heap.size w wr) (fun i _=>rs.length-(intOf i).toNat)
 case atStart=>exact ⟨0,_,_,Nat.zero_le _,Nat.zero_le _,rfl,HAO,HP,HV,fun j hj=>absurd hj (Nat.not_lt_zero _),bO⟩
 obtain ⟨k,pv,vv,hk,hkp,rfl,HA,HR,HS,HT,hbel⟩:=hrel
 clear HAO HP HV bO c0 c1
 by_cases hlt:k<rs.length
 ·have hki:(k:Int)<rs.length:=by omega
  have ha0:=HA.out.1 0 _ rfl
  have ha1:=HA.out.1 1 _ rfl
  have hdr:=drop_first hlt
  have HR2:Hid (StrRow w pv (rs.getD k ByteArray.empty::rs.drop (k+1))):=by rw[←hdr];exact HR.out
  clear hdr HR
  by_cases hlp:k<ps.length
  ·have hdp:=drop_first hlp
   have HS2:Hid (StrRow w vv (ps.getD k ByteArray.empty::ps.drop (k+1))):=by rw[←hdp];exact HS.out
   clear hdp HS
   have HN:Hid (fitO (rs.getD k ByteArray.empty) (ps.getD k ByteArray.empty)=false→F=false):=HNF.out k hlt
   have HT2:Hid (fitO (rs.getD k ByteArray.empty) (ps.getD k ByteArray.empty)=true→ ∀j,j<k+1→fit j=true):=fun h j hj=>by
    by_cases hjk:j<k
    ·exact HT.out j hjk
    rw[show j=k by omega,HF.out];exact h
   obtain ⟨g,off,c,hpv⟩:=HR2.out.head
   obtain ⟨g',off',c',hvv⟩:=HS2.out.head
   obtain ⟨n,hn⟩: ∃n,n=(rs.drop (k+1)).length:=⟨_,rfl⟩
   obtain ⟨n',hn'⟩: ∃n',n'=(ps.drop (k+1)).length:=⟨_,rfl⟩
   have hnl:n≤1099511627776:=by rw[hn,List.length_drop];omega
   have hnl':n'≤1099511627776:=by rw[hn',List.length_drop];omega
   rw[←hn]at hpv
   rw[←hn']at hvv
   subst hpv hvv
   have HHN:Hid (n=(rs.drop (k+1)).length∧n'=(ps.drop (k+1)).length):=⟨hn,hn'⟩
   clear hn hn' HT
   generalize rs.getD k ByteArray.empty=x at*
   generalize ps.getD k ByteArray.empty=y at*
   cases hf:fitO x y with
   |true=>
    have HT3:Hid (∀j,j<k+1→fit j=true):=HT2.out hf
    have CM:Hid (Calls Tryz.prog 31 #[.agg #[.slice (some ⟨g,off,none⟩) (n+1) (n+1+c),.slice (some ⟨g',off',none⟩) (n'+1) (n'+1+c')]] wr fun e w'=> ∃va vb,e=.returned (.tuple #[.agg #[va,vb],.bool true])∧StrRow w va (rs.drop (k+1))∧StrRow w vb (ps.drop (k+1))∧Below wr.heap.size wr w'):=implPartMore_yes g off n c g' off' n' c' x y _ _ w wr hbel HHN.out.1 HHN.out.2 hnl hnl' hf HR2.out HS2.out
    clear hf HN HT2 HHN HR2 HS2
    go_wp2_with fail
    refine CM.out.mono ?_
    rintro e w1 ⟨va,vb,rfl,sa,sb,b1⟩
    have A1:BAt w1 w.heap.size [.slice (some ⟨g,off,none⟩) (n+1) (n+1+c),.slice (some ⟨g',off',none⟩) (n'+1) (n'+1+c')]:=HA.out.below b1
    have B1:=hbel.trans (b1.mono hbel.size)
    have hz1:=A1.2.2
    obtain ⟨qo,qc,rfl⟩:=sa.slice
    obtain ⟨uo,uc,rfl⟩:=sb.slice
    generalize hnq:(rs.drop (k+1)).length=nq at*
    generalize hnu:(ps.drop (k+1)).length=nu at*
    have SA:Hid (StrRow w (.slice qo nq qc) (rs.drop (k+1))):=sa
    have SB:Hid (StrRow w (.slice uo nu uc) (ps.drop (k+1))):=sb
    have A2:=A1.alloc (.cells #[.slice qo nq qc,.slice uo nu uc] 65)
    have N2:=BAt.new w1 #[.slice qo nq qc,.slice uo nu uc] 65
    have B2:=B1.alloc B1.size (.cells #[.slice qo nq qc,.slice uo nu uc] 65)
    clear sa sb CM HA ha0 ha1 b1 hbel A1 hnq hnu
    obtain ⟨O2,hO2⟩: ∃O2,O2=w1.alloc (.cells #[.slice qo nq qc,.slice uo nu uc] 65):=⟨_,rfl⟩
    rw[←hO2]at A2 N2 B2
    have d0:=A2.1 0 _ rfl
    have d1:=A2.1 1 _ rfl
    have df:=A2.2.1
    have m0:=N2.1 0 _ rfl
    have m1:=N2.1 1 _ rfl
    go_upto_region 4 with fail
    rw[←hO2]
    clear hO2
    go_wp2_with fail
    go_roundw
    case rel=>exact ⟨k+1,_,_,by omega,by omega,by go_num,(A2.set 0 (by simp) (.slice qo nq qc)).set 1 (by simp) (.slice uo nu uc),SA,SB,HT3,(B2.setCell (p:=⟨w.heap.size,0,none⟩) (Nat.le_refl _) _).setCell (p:=⟨w.heap.size,1,none⟩) (Nat.le_refl _) _⟩
    case measure=>simp[intOf];omega
   |false=>
    have HN2:Hid (F=false):=HN.out hf
    have CM:Hid (Calls Tryz.prog 31 #[.agg #[.slice (some ⟨g,off,none⟩) (n+1) (n+1+c),.slice (some ⟨g',off',none⟩) (n'+1) (n'+1+c')]] wr fun e w'=> ∃(a b:Option Addr) (n1 c1 n2 c2:Nat),e=.returned (.tuple #[.agg #[.slice a n1 c1,.slice b n2 c2],.bool false])∧Below wr.heap.size wr w'):=implPartMore_no g off n c g' off' n' c' x y _ _ wr hnl hnl' hf (HR2.out.below hbel) (HS2.out.below hbel)
    clear hf HN HT2 HHN HR2 HS2
    go_wp2_with fail
    refine CM.out.mono ?_
    rintro e w1 ⟨a5,b5,n5,c5,m5,d5,rfl,b1⟩
    have B1:=hbel.trans (b1.mono hbel.size)
    clear b1 CM HA ha0 ha1
    go_wp2_with fail
    go_ret
    exact ⟨ret_bool HN2.out.symm,B1.alloc B1.size _⟩
  have HN2:Hid (F=false):=HNL.out (by omega)
  have hde:ps.drop k=[]:=List.drop_eq_nil_of_le (by omega)
  have hse:=HS.out
  rw[hde]at hse
  obtain ⟨ao,ac,rfl⟩:=hse.none
  have CM:Hid (Calls Tryz.prog 31 #[.agg #[pv,.slice ao 0 ac]] wr fun e w'=> ∃(a b:Option Addr) (n1 c1 n2 c2:Nat),e=.returned (.tuple #[.agg #[.slice a n1 c1,.slice b n2 c2],.bool false])∧Below wr.heap.size wr w'):=implPartMore_end pv _ ao ac wr (HR2.out.below hbel)
  obtain ⟨g,off,c,hpv⟩:=HR2.out.head
  generalize (rs.drop (k+1)).length=n at hpv
  subst hpv
  clear HS HR2 hde hse HT
  go_wp2_with fail
  refine CM.out.mono ?_
  rintro e w1 ⟨a5,b5,n5,c5,m5,d5,rfl,b1⟩
  have B1:=hbel.trans (b1.mono hbel.size)
  clear b1 CM HA ha0 ha1
  go_wp2_with fail
  go_ret
  exact ⟨ret_bool HN2.out.symm,B1.alloc B1.size _⟩
 have hki: ¬(k:Int)<rs.length:=by omega
 have HE:Hid (F=true):=HY.out (by omega) fun j hj=>HT.out j (by omega)
 clear HT HA HR HS
 go_wp2_with fail
 go_ret
 exact ⟨ret_bool HE.out.symm,hbel⟩
theorem implFits(p:Value)(r:RV)(s:ByteArray)(w:World)(hl:r.ps.length≤2097152)(hs:s.size≤1048576)(h:StrRow w p r.ps):
  Calls Tryz.prog 11 #[.agg #[p,.bool r.ex],.string s] w fun e w'=>e=.returned (.bool (fitsB r s))∧Below w.heap.size w w':=by
 obtain ⟨O,hO⟩: ∃O,O=w.alloc (.cells #[p,.bool r.ex] 37):=⟨_,rfl⟩
 have hbO:Below w.heap.size w O:=by rw[hO];exact (Below.refl _ _).alloc (Nat.le_refl _) _
 have hzO:w.heap.size<O.heap.size:=by rw[hO];simp
 have cO:O.cell? ⟨w.heap.size,0,none⟩=some p:=by rw[hO,World.cell?_alloc_at _ _ _ _ rfl];rfl
 have HO:Hid (StrRow O p r.ps):=h.below hbO
 have hpl:(partsL s).length≤1099511627776:=by
  unfold partsL
  split
  ·simp
  rw[List.length_reverse]
  have:=fields_le s 46
  omega
 have CP:Hid (∀W,Calls Tryz.prog 10 #[.string s] W fun e w'=> ∃v,e=.returned v∧w'.ownsRow W.heap.size 9 1 v (partsL s).length (scells (partsL s))∧Below W.heap.size W w'):=fun W=>implParts s W hs
 have CP2:Hid (∀W,Calls Tryz.prog 10 #[.string s] W fun e w'=> ∃ao cap,e=.returned (.slice ao (partsL s).length cap)∧StrRow w' (.slice ao (partsL s).length cap) (partsL s)∧Below W.heap.size W w'):=fun W=>(CP.out W).mono fun e w' ⟨v,h1,h2,h3⟩=>by
  have hr:=StrRow.of_own h2
  obtain ⟨ao,cap,rfl⟩:=hr.slice
  exact ⟨ao,cap,h1,hr,h3⟩
 clear CP
 obtain ⟨po,pc,rfl⟩:=h.slice
 have CW:Hid (∀W v,O.heap.size≤W.heap.size→(∀k,k<O.heap.size→W.heap[k]? =O.heap[k]?)→StrRow W v (partsL s)→CB 30 #[.agg #[.slice po r.ps.length pc,v],.func (.func 31) #[] #[]] W (.bool (fitsB r s))):=fun W v hz hb hv=>implWhole _ v r (partsL s) W (by omega) hpl (HO.out.same hz hb) hv
 clear HO
 generalize partsL s=ps at*
 generalize r.ps.length=n at*
 go_enter Tryz.func11,Tryz.ntmps11
 go_upto_region 1 with fail
 rw[←hO]
 clear hO h
 go_region_with (first|(go_at_call 10;refine (CP2.out _).mono ?_;rintro e wc ⟨ao,cap,rfl,hown,hbc⟩;have cc:=(hbc.cell (p:=⟨w.heap.size,0,none⟩) hzO).trans cO)|(go_at_call 30;refine (CW.out _ _ hbc.size hbc.block hown).mono ?_;rintro e wd ⟨rfl,hbd⟩))
 all_goals
  go_wp2_with fail
  go_ret
  exact ⟨rfl,(hbO.drew.trans (hbc.mono hbO.size)).trans (hbd.mono (hbO.drew.trans (hbc.mono hbO.size)).size)⟩
end Go.Proofs.YtijliddchoehhaaGreatDoor
namespace Go.Proofs.YtijliddchoehhaaGreatDoor
open Go.RowKit
theorem parts_most(s:ByteArray):(partsL s).length≤s.size+1:=by
 unfold partsL
 split
 ·simp
 rw[List.length_reverse]
 exact fields_le s 46
theorem parts_sizes(s:ByteArray): ∀x∈partsL s,x.size≤s.size:=by
 intro x hx
 unfold partsL at hx
 split at hx
 ·cases hx
 exact fieldsL_sizes s 46 x (by simpa using hx)
end Go.Proofs.YtijliddchoehhaaGreatDoor
namespace Go.Proofs.YtijliddchoehhaaGreatDoor
open Go.RowKit
set_option linter.unusedVariables false
def mostX(ex:Bool)(l:List RV):Nat:=l.foldl (fun m r=>if r.ex=ex then max m r.ps.length else m) 0
def anyX(ex:Bool)(l:List RV):Bool:=l.any fun r=>r.ex==ex
theorem most_snoc{l:List RV}{k:Nat}(h:k<l.length)(ex:Bool):mostX ex (l.take (k+1))=(if (l.getD k rv0).ex=ex then max (mostX ex (l.take k)) (l.getD k rv0).ps.length else mostX ex (l.take k))∧anyX ex (l.take (k+1))=(anyX ex (l.take k)||((l.getD k rv0).ex==ex)):=by
 have e:l.getD k rv0=l[k]:=by rw[List.getD_eq_getElem?_getD,List.getElem?_eq_getElem h];rfl
 rw[e]
 unfold mostX anyX
 rw[List.take_succ_eq_append_getElem h,List.foldl_append,List.any_append]
 simp
theorem most_le(ex:Bool): ∀(l:List RV) (a M:Nat),a≤M→(∀r∈l,r.ps.length≤M)→l.foldl (fun m r=>if r.ex=ex then max m r.ps.length else m) a≤M
 |[],a,M,ha,_=>ha
 |r::l,a,M,ha,h=>by
  rw[List.foldl_cons]
  refine most_le ex l _ M ?_ (fun x hx=>h x (by simp[hx]))
  have:=h r (by simp)
  split<;>omega
theorem implMost(l:List RV)(v:Value)(ex:Bool)(w:World)(hl:l.length≤16777216)(hz: ∀r∈l,r.ps.length≤2097152)(h:RuleRow w v l):
  Calls Tryz.prog 27 #[v,.bool ex] w fun e w'=>e=.returned (.tuple #[.int .i64 ((mostX ex l:Nat):Int),.bool (anyX ex l)])∧Below w.heap.size w w':=by
 have HZ:Hid (∀r∈l,r.ps.length≤2097152):=hz
 have HROW:Hid (RuleRow w v l):=h
 obtain ⟨ao,cap,rfl⟩:=h.slice
 clear hz h
 go_enter Tryz.func27,Tryz.ntmps27
 go_wp2_with fail
 go_loopw[4,5,10] (fun m b i wr=> ∃k:Nat,k≤l.length∧i=.int .i64 k∧m=.int .i64 ((mostX ex (l.take k):Nat):Int)∧b=.bool (anyX ex (l.take k))∧Below w.heap.size w wr) (fun _ _ i _=>l.length-(intOf i).toNat)
 case atStart=>exact ⟨0,Nat.zero_le _,rfl,rfl,rfl,Below.refl _ _⟩
 obtain ⟨k,hk,rfl,rfl,rfl,hbel⟩:=hrel
 by_cases hlt:k<l.length
 ·have hki:(k:Int)<l.length:=by omega
  obtain ⟨g,off,p,cc,hv,hg,c1,c2,c3⟩: ∃g off p cc,Value.slice ao l.length cap=.slice (some ⟨g,off,none⟩) l.length cc∧g<w.heap.size∧w.cell? ⟨g,off+k*2,none⟩=some p∧StrRow w p (l.getD k rv0).ps∧w.cell? ⟨g,off+k*2+1,none⟩=some (.bool (l.getD k rv0).ex):=by
   rcases HROW.out with ⟨h,_⟩|⟨_,g,off,cc,h1,h2,h3⟩
   ·rw[h]at hlt;simp at hlt
   obtain ⟨p,q1,q2,q3⟩:=h3 k hlt
   exact ⟨g,off,p,_,h1,h2,q1,q2,q3⟩
  have c1w:=(hbel.cell (p:=⟨g,off+k*2,none⟩) hg).trans c1
  have c3w:=(hbel.cell (p:=⟨g,off+k*2+1,none⟩) hg).trans c3
  have hz1:(l.getD k rv0).ps.length≤2097152:=HZ.out _ (by
   rw[List.getD_eq_getElem?_getD,List.getElem?_eq_getElem hlt]
   exact List.getElem_mem _)
  obtain ⟨hm1,hm2⟩:=most_snoc hlt ex
  have HM:Hid (mostX ex (l.take (k+1))=(if (l.getD k rv0).ex=ex then max (mostX ex (l.take k)) (l.getD k rv0).ps.length else mostX ex (l.take k))∧anyX ex (l.take (k+1))=(anyX ex (l.take k)||((l.getD k rv0).ex==ex))):=⟨hm1,hm2⟩
  obtain ⟨po,pcap,hpo⟩:=c2.slice
  rw[hpo]at c1w
  cases hv
  clear c1 c2 c3 hm1 hm2 hpo
  generalize l.getD k rv0=r at*
  have BO:=hbel.alloc hbel.size (.cells #[.slice po r.ps.length pcap,.bool r.ex] 37)
  by_cases he:r.ex=ex
  ·have HM2:Hid (mostX ex (l.take (k+1))=max (mostX ex (l.take k)) r.ps.length∧anyX ex (l.take (k+1))=true):=⟨by rw[HM.out.1,if_pos he],by rw[HM.out.2,he];simp⟩
   rw[he]at c3w BO
   clear HM he
   generalize hnp:r.ps.length=np at*
   clear hnp
   generalize mostX ex (l.take k)=mk at*
   obtain ⟨M,hM⟩: ∃M,mostX ex (l.take (k+1))=M:=⟨_,rfl⟩
   go_wp2_with fail
   go_roundw
   case rel=>exact ⟨k+1,by omega,by go_num,by rw[HM2.out.1];simp;omega,by rw[HM2.out.2],BO⟩
   case measure=>simp[intOf];omega
  have heq:(r.ex==ex)=false:=beq_eq_false_iff_ne.2 he
  have HM2:Hid (mostX ex (l.take (k+1))=mostX ex (l.take k)∧anyX ex (l.take (k+1))=anyX ex (l.take k)):=⟨by rw[HM.out.1,if_neg he],by rw[HM.out.2,heq,Bool.or_false]⟩
  clear HM he
  generalize r.ex=er at*
  go_wp2_with fail
  go_roundw
  case rel=>exact ⟨k+1,by omega,by go_num,by rw[HM2.out.1],by rw[HM2.out.2],BO⟩
  case measure=>simp[intOf];omega
 have hki: ¬(k:Int)<l.length:=by omega
 obtain rfl:k=l.length:=by omega
 rw[List.take_length]
 clear HROW
 go_wp2_with fail
 go_ret2
 exact ⟨rfl,hbel⟩
def FitSt(w w1 cs:World)(K:Nat)(wr:World)(fv:Value)(acc:List RV):Prop:=
 GR w wr w1.heap.size fv acc∧Below w1.heap.size w1 wr∧wr.heap[K]? =cs.heap[K]? ∧some K≠fv.ownBlock∧K<wr.heap.size
theorem FitSt.below{w w1 cs wr wr':World}{K:Nat}{fv:Value}{acc:List RV}(h:FitSt w w1 cs K wr fv acc)(hb:Below wr.heap.size wr wr'):FitSt w w1 cs K wr' fv acc:=
 ⟨h.1.below hb,h.2.1.trans (hb.mono h.2.1.size),(hb.block K h.2.2.2.2).trans h.2.2.1,h.2.2.2.1,Nat.lt_of_lt_of_le h.2.2.2.2 hb.size⟩
theorem FitSt.grow{w w1 cs W w2:World}{K:Nat}{fv v' p:Value}{acc:List RV}{r:RV}{vs:List Value}(h:FitSt w w1 cs K W fv acc)(q1:W.ownsRow w1.heap.size 37 2 fv acc.length vs)
  (q2: ∀i,i<acc.length→ ∃p,vs[i*2]? =some p∧StrRow w p (acc.getD i rv0).ps∧vs[i*2+1]? =some (.bool (acc.getD i rv0).ex))
  (o2:w2.ownsRow w1.heap.size 37 2 v' (acc.length+1) (vs++[p,.bool r.ex])) (g2:W.grownBy w2 fv.ownBlock) (hat:v'.ownBlock=fv.ownBlock∨v'.ownBlock=some (W.heap.size+1)) (hp:StrRow w p r.ps):FitSt w w1 cs K w2 v' (acc++[r]):=by
 obtain ⟨h1,h2,h3,h4,h5⟩:=h
 refine ⟨GR.snoc q1.1 q2 o2 hp,h2.grown g2 h2.size (fun b hb=>(q1.lt b hb).1),(g2.block K h5 h4).trans h3,?_,Nat.lt_of_lt_of_le h5 g2.size⟩
 rcases hat with h|h
 ·rw[h];exact h4
 rw[h];intro e;cases e;omega
def fitK(l:List RV)(name s:ByteArray):List RV:=(byL l s).filter fun r=>fitsB r name
def keys3(name:ByteArray):List ByteArray:=[(partsL name).getD 0 ByteArray.empty,⟨#[42]⟩,⟨#[]⟩]
def fitL(l:List RV)(name:ByteArray):List RV:=(keys3 name).flatMap (fitK l name)
theorem byL_le(l:List RV)(s:ByteArray):(byL l s).length≤l.length:=List.length_filter_le _ _
theorem fitK_le(l:List RV)(name s:ByteArray):(fitK l name s).length≤l.length:=Nat.le_trans (List.length_filter_le _ _) (byL_le l s)
theorem flat3_le(l:List RV)(name:ByteArray)(M:Nat)(hM:l.length≤M): ∀ks:List ByteArray,(ks.flatMap (fitK l name)).length≤ks.length*M
 |[]=>by simp
 |s::ks=>by
  rw[List.flatMap_cons,List.length_append,List.length_cons,Nat.add_mul]
  have:=flat3_le l name M hM ks
  have:=fitK_le l name s
  omega
theorem byL_mem{l:List RV}{s:ByteArray}{r:RV}(h:r∈byL l s):r∈l:=(List.mem_filter.1 h).1
theorem filt_snoc{l:List RV}{j:Nat}(h:j<l.length)(f:RV→Bool):(l.take (j+1)).filter f=(l.take j).filter f++(if f (l.getD j rv0)=true then [l.getD j rv0]else []):=by
 have e:l.getD j rv0=l[j]:=by rw[List.getD_eq_getElem?_getD,List.getElem?_eq_getElem h];rfl
 rw[e,List.take_succ_eq_append_getElem h,List.filter_append]
 congr 1
 simp only[List.filter_cons,List.filter_nil]
theorem implFitting(l:List RV)(v:Value)(name:ByteArray)(w:World)(hl:l.length≤1048576)(hz:RSz l)(hs:name.size≤1048576)(hp:0<(partsL name).length)(h:RuleRow w v l):
  Calls Tryz.prog 26 #[v,.string name] w fun e w'=> ∃u,e=.returned u∧RuleRow w' u (fitL l name)∧Below w.heap.size w w':=by
 have HZ:Hid (RSz l):=hz
 have CB:Hid (Calls Tryz.prog 53 #[v] w fun e w'=>e=.returned (.map (some w.heap.size))∧(∃S,RMap w w' (w.heap.size+1) w.heap.size l.length S (byL l))∧Below w.heap.size w w'):=implByLast l v w hl hz h
 have CP:Hid (∀W,Calls Tryz.prog 10 #[.string name] W fun e w'=> ∃v,e=.returned v∧w'.ownsRow W.heap.size 9 1 v (partsL name).length (scells (partsL name))∧Below W.heap.size W w'):=fun W=>implParts name W hs
 obtain ⟨ao,cap,rfl⟩:=h.slice
 clear hz h
 go_enter Tryz.func26,Tryz.ntmps26
 go_wp2_with fail
 refine CB.out.mono ?_
 rintro e w1 ⟨rfl,⟨S,hM⟩,b1⟩
 have HM:=hidden hM
 have hwa:Below w1.heap.size w1 (w1.alloc (.cells #[] 37)):=(Below.refl _ _).alloc (Nat.le_refl _) _
 have hoa:(w1.alloc (.cells #[] 37)).ownsRow w1.heap.size 37 2 (.slice (some ⟨w1.heap.size,0,none⟩) 0 0) 0 []:=World.ownsRow_made w1 #[] 0 (Nat.le_refl _) (by decide) rfl
 clear hM CB
 go_wp2_with fail
 refine (CP.out _).mono ?_
 rintro e wb ⟨vp,rfl,op,bb⟩
 rcases own_shape op with ⟨h,_⟩|⟨_,gp,pcap,rfl⟩
 ·omega
 have cp:=scell_at op 0 hp
 obtain ⟨x0,hx0⟩: ∃x0,(partsL name).getD 0 ByteArray.empty=x0:=⟨_,rfl⟩
 rw[hx0]at cp
 have HX0:Hid ((partsL name).getD 0 ByteArray.empty=x0):=hx0
 clear hx0
 have hbb:=hwa.trans (bb.mono hwa.size)
 have hob:=own_below hoa bb
 have hz1:w1.heap.size<wb.heap.size:=by have:=(hob.lt w1.heap.size rfl).2;exact this
 obtain ⟨C,hC⟩: ∃C,C=wb.alloc (.cells #[.string x0,.string ⟨#[42]⟩,.string ⟨#[]⟩] 9):=⟨_,rfl⟩
 have bC:Below wb.heap.size wb C:=by rw[hC];exact (Below.refl _ _).alloc (Nat.le_refl _) _
 have AC:BAt C wb.heap.size [.string x0,.string ⟨#[42]⟩,.string ⟨#[]⟩]:=by rw[hC];exact BAt.new wb #[.string x0,.string ⟨#[42]⟩,.string ⟨#[]⟩] _
 have HF0:Hid (FitSt w w1 C wb.heap.size C (.slice (some ⟨w1.heap.size,0,none⟩) 0 0) []):=⟨⟨[],own_below hob bC,fun i hi=>absurd hi (Nat.not_lt_zero _)⟩,hbb.trans (bC.mono hbb.size),rfl,(fun e=>by simp[Value.ownBlock]at e;omega),AC.2.2⟩
 have HKY:Hid (∀i,i<3→C.cell? ⟨wb.heap.size,i,none⟩=some (.string ((keys3 name).getD i ByteArray.empty))):=fun i hi=>by
  match i,hi with
  |0,_=>rw[show (keys3 name).getD 0 ByteArray.empty=x0 from HX0.out];exact AC.1 0 _ rfl
  |1,_=>exact AC.1 1 _ rfl
  |2,_=>exact AC.1 2 _ rfl
 have HKS:Hid (∀s∈keys3 name,s.size≤maxLen):=fun s hs'=>by
  unfold maxLen
  have h3:s=(partsL name).getD 0 ByteArray.empty∨s=⟨#[42]⟩∨s=⟨#[]⟩:=by
   rcases List.mem_cons.1 hs' with h|h
   ·exact .inl h
   rcases List.mem_cons.1 h with h|h
   ·exact .inr (.inl h)
   exact .inr (.inr (List.mem_singleton.1 h))
  rcases h3 with rfl|rfl|rfl
  ·have hmem:(partsL name).getD 0 ByteArray.empty∈partsL name:=by
    rw[List.getD_eq_getElem?_getD,List.getElem?_eq_getElem hp]
    exact List.getElem_mem _
   have:=parts_sizes name _ hmem
   omega
  ·decide
  decide
 have hk3:(keys3 name).length=3:=rfl
 have HFL:Hid (fitL l name=(keys3 name).flatMap (fitK l name)):=rfl
 clear op hob hoa bb bC AC hwa hbb CP
 go_upto_region 4 with fail
 rw[←hC]
 generalize hK:wb.heap.size=K at*
 clear hK cp
 clear hC
 generalize keys3 name=ks at*
 go_loopw[6,20] (fun fv i wr=> ∃(k:Nat) (acc:List RV) (ao:Option Addr) (c:Nat),k≤3∧i=.int .i64 k∧fv=.slice ao acc.length c∧Hid (acc=(ks.take k).flatMap (fitK l name))∧acc.length≤k*1048576∧Hid (FitSt w w1 C K wr (.slice ao acc.length c) acc)) (fun _ i _=>3-(intOf i).toNat)
 case atStart=>exact ⟨0,[],_,_,Nat.zero_le _,rfl,rfl,rfl,Nat.zero_le _,HF0⟩
 obtain ⟨k,acc,fo,fc,hk,rfl,rfl,HA,hal,HF⟩:=hrel
 clear HF0
 by_cases hlt:k<3
 ·have hki:(k:Int)<3:=by omega
  have ck:=HKY.out k hlt
  have hmem:ks.getD k ByteArray.empty∈ks:=by
   rw[List.getD_eq_getElem?_getD,List.getElem?_eq_getElem (by omega)]
   exact List.getElem_mem _
  have hsz:=HKS.out _ hmem
  have HTK:Hid (ks.take (k+1)=ks.take k++[ks.getD k ByteArray.empty]):=btake_snoc ks k (by omega)
  have ckw:wr.cell? ⟨K,k,none⟩=some (.string (ks.getD k ByteArray.empty)):=(World.cell?_of_block (w:=C) (a:=⟨K,k,none⟩) HF.out.2.2.1).trans ck
  clear ck hmem
  generalize ks.getD k ByteArray.empty=s at*
  have hlook:=(HM.out.below HF.out.2.1).look s hsz
  have HR1:Hid (RuleRow w1 (S s) (byL l s)):=(HM.out.own s).row b1
  have hbl:=byL_le l s
  have HGR:Hid (GR w w1 (w.heap.size+1) (S s) (byL l s)):=HM.out.own s
  have HFS:Hid (fitK l name s=(byL l s).filter fun r=>fitsB r name):=rfl
  have HMB:Hid (∀r∈byL l s,r∈l):=fun r hr=>byL_mem hr
  obtain ⟨so,sc,hss⟩:=HR1.out.slice
  rw[hss]at hlook HGR
  generalize byL l s=bs at*
  clear hss
  go_wp2_with fail
  clear hlook ckw
  have HA0:Hid (acc=acc++(bs.take 0).filter fun r=>fitsB r name):=by
   show _=_
   rw[List.take_zero,List.filter_nil,List.append_nil]
  go_loopw[6,28] (fun fv i wr=> ∃(j:Nat) (acc2:List RV) (ao:Option Addr) (c:Nat),j≤bs.length∧i=.int .i64 j∧fv=.slice ao acc2.length c∧Hid (acc2=acc++(bs.take j).filter fun r=>fitsB r name)∧acc2.length≤k*1048576+j∧Hid (FitSt w w1 C K wr (.slice ao acc2.length c) acc2)) (fun _ i _=>bs.length-(intOf i).toNat)
  case atStart=>exact ⟨0,acc,_,_,Nat.zero_le _,rfl,rfl,HA0,Nat.le_trans hal (Nat.le_add_right _ _),HF⟩
  obtain ⟨j,acc2,go2,gc2,hj,rfl,rfl,HA2,hal2,HF2⟩:=hrel
  clear HF
  by_cases hjl:j<bs.length
  ·have hji:(j:Int)<bs.length:=by omega
   obtain ⟨g,p,cc,hv,hg,c1,c2,c3⟩: ∃g p cc,Value.slice so bs.length sc=.slice (some ⟨g,0,none⟩) bs.length cc∧g<w1.heap.size∧w1.cell? ⟨g,j*2,none⟩=some p∧StrRow w p (bs.getD j rv0).ps∧w1.cell? ⟨g,j*2+1,none⟩=some (.bool (bs.getD j rv0).ex):=by
    obtain ⟨vs9,o9,h9⟩:=HGR.out
    obtain ⟨p9,a9,b9,d9⟩:=h9 j hjl
    rcases HGR.out.shape with ⟨_,h⟩|⟨g9,c9,h⟩
    ·rw[h]at hjl;simp at hjl
    rw[h]at o9
    exact ⟨g9,p9,c9,h,(o9.lt g9 rfl).2,(o9.cellAt (j*2) (by omega)).trans a9,b9,(o9.cellAt (j*2+1) (by omega)).trans d9⟩
   have c1w:=(HF2.out.2.1.cell (p:=⟨g,j*2,none⟩) hg).trans c1
   have c3w:=(HF2.out.2.1.cell (p:=⟨g,j*2+1,none⟩) hg).trans c3
   have hrm:bs.getD j rv0∈bs:=by
    rw[List.getD_eq_getElem?_getD,List.getElem?_eq_getElem hjl]
    exact List.getElem_mem _
   have hzr:=(HZ.out _ (HMB.out _ hrm)).1
   have HFN:Hid ((bs.take (j+1)).filter (fun r=>fitsB r name)=(bs.take j).filter (fun r=>fitsB r name)++(if fitsB (bs.getD j rv0) name=true then [bs.getD j rv0]else [])):=filt_snoc hjl _
   have CF:Hid (∀W,Below w1.heap.size w1 W→Calls Tryz.prog 11 #[.agg #[p,.bool (bs.getD j rv0).ex],.string name] W fun e w'=>e=.returned (.bool (fitsB (bs.getD j rv0) name))∧Below W.heap.size W w'):=fun W hW=>implFits p (bs.getD j rv0) name W hzr hs (c2.below (b1.trans (hW.mono b1.size)))
   have HPW:Hid (StrRow w p (bs.getD j rv0).ps):=c2
   cases hv
   obtain ⟨po,pc,hpo⟩:=c2.slice
   subst hpo
   clear c1 c2 c3 hrm
   generalize bs.getD j rv0=r at*
   generalize hnp:r.ps.length=np at*
   clear hnp
   go_upto_region 9 with fail
   obtain ⟨O,hO⟩: ∃O,O=wr.alloc (.cells #[.slice po np pc,.bool r.ex] 37):=⟨_,rfl⟩
   have bO:Below wr.heap.size wr O:=by rw[hO];exact (Below.refl _ _).alloc (Nat.le_refl _) _
   have AO:BAt O wr.heap.size [.slice po np pc,.bool r.ex]:=by rw[hO];exact BAt.new wr #[.slice po np pc,.bool r.ex] _
   have HFO:Hid (FitSt w w1 C K O (.slice go2 acc2.length gc2) acc2):=HF2.out.below bO
   have d0:=AO.1 0 _ rfl
   have d1:=AO.1 1 _ rfl
   rw[←hO]
   clear hO c1w c3w bO HF2
   generalize wr.heap.size=D at*
   go_wp2_with fail
   refine (CF.out _ HFO.out.2.1).mono ?_
   rintro e w2 ⟨rfl,b2⟩
   have A2:=AO.below b2
   have HF3:Hid (FitSt w w1 C K w2 (.slice go2 acc2.length gc2) acc2):=HFO.out.below b2
   clear CF AO HFO d0 d1 b2
   have d0:=A2.1 0 _ rfl
   have d1:=A2.1 1 _ rfl
   cases hfb:fitsB r name with
   |false=>
    have HA3:Hid (acc2=acc++(bs.take (j+1)).filter fun r=>fitsB r name):=by
     show _=_
     rw[HFN.out,hfb,HA2.out]
     simp
    clear hfb HFN HA2
    go_wp2_with fail
    go_roundw
    case rel=>exact ⟨j+1,acc2,go2,gc2,by omega,by go_num,rfl,HA3,by omega,HF3⟩
    case measure=>simp[intOf];omega
   |true=>
    have HA3:Hid (acc2++[r]=acc++(bs.take (j+1)).filter fun r=>fitsB r name):=by
     show _=_
     rw[HFN.out,hfb,HA2.out]
     simp
    obtain ⟨qs,q1,q2⟩:=HF3.out.1
    have HQ2:=hidden q2
    have hbz:w1.heap.size≤w2.heap.size:=HF3.out.2.1.size
    clear hfb HFN HA2 q2
    go_wp2_with (at_builtin;refine wpList_append_rule _ rfl _ _ 24 rfl w1.heap.size 37 (.agg #[.slice none 0 0,.bool false]) 32 Tryz.underlying24 Tryz.infoRule rfl _ _ _ rfl q1 (.slice po np pc) (.bool r.ex) rfl rfl rfl (by omega) (by unfold maxLen;omega) hbz ?_)
    intro v' w5 o5 g5 hat
    have FS:=FitSt.grow HF3.out q1 HQ2.out o5 g5 hat HPW.out
    have hal5:(acc2++[r]).length=acc2.length+1:=by simp
    obtain ⟨ao5,c5,hv5⟩: ∃ao5 c5,v'=.slice ao5 (acc2++[r]).length c5:=by
     rcases FS.1.shape with ⟨h,h2⟩|⟨g6,c6,h⟩
     ·simp at h2
     exact ⟨_,_,h⟩
    have HFS5:=hidden FS
    rw[hv5]at HFS5
    subst hv5
    clear FS o5 g5 hat q1 HQ2 HF3 A2 d0 d1
    go_wp2_with fail
    go_roundw
    case rel=>exact ⟨j+1,acc2++[r],ao5,c5,by omega,by go_num,rfl,HA3,by omega,HFS5⟩
    case measure=>simp[intOf];omega
  have hji: ¬(j:Int)<bs.length:=by omega
  have HA3:Hid (acc2=(ks.take (k+1)).flatMap (fitK l name)):=by
   show _=_
   rw[HA2.out,show j=bs.length by omega,List.take_length,HTK.out,List.flatMap_append,←HA.out,List.flatMap_cons,List.flatMap_nil,List.append_nil,HFS.out]
  have hal3:acc2.length≤(k+1)*1048576:=by omega
  clear HA2 HA HR1
  go_wp2_with fail
  go_roundw
  case rel=>exact ⟨k+1,acc2,go2,gc2,by omega,by go_num,rfl,HA3,hal3,HF2⟩
  case measure=>simp[intOf];omega
 have hki: ¬(k:Int)<3:=by omega
 have HR:Hid (RuleRow wr (.slice fo acc.length fc) (fitL l name)):=by
  have hb:=b1.trans (HF.out.2.1.mono b1.size)
  have:=HF.out.1.row hb
  have e:acc=fitL l name:=by rw[HA.out,HFL.out,List.take_of_length_le (by omega)]
  rw[←e]
  exact this
 have hb:=b1.trans (HF.out.2.1.mono b1.size)
 clear HF HA
 go_wp2_with fail
 go_ret
 exact ⟨_,rfl,HR.out,hb⟩
end Go.Proofs.YtijliddchoehhaaGreatDoor
namespace Go.Proofs.YtijliddchoehhaaGreatDoor
open Go.RowKit
def blanks4:List UInt8:=[32,9,10,13]
def isBlank(c:UInt8):Prop:=c.toNat=32∨c.toNat=9∨c.toNat=10∨c.toNat=13
theorem blank_yes{c:UInt8}(h:isBlank c):blanks4.contains c=true:=by
 rcases h with h|h|h|h
 ·rw[show c=32 from UInt8.toNat_inj.1 (by rw[h];rfl)];rfl
 ·rw[show c=9 from UInt8.toNat_inj.1 (by rw[h];rfl)];rfl
 ·rw[show c=10 from UInt8.toNat_inj.1 (by rw[h];rfl)];rfl
 rw[show c=13 from UInt8.toNat_inj.1 (by rw[h];rfl)];rfl
theorem blank_no{c:UInt8}(h: ¬isBlank c):blanks4.contains c=false:=by
 unfold isBlank at h
 simp only[blanks4,List.contains_cons,List.contains_nil,Bool.or_false,Bool.or_eq_false_iff,beq_eq_false_iff_ne,ne_eq]
 refine ⟨?_,?_,?_,?_⟩<;>(intro e;subst e;exact h (by decide))
theorem trim_eq(s:ByteArray)(a b:Nat)(hab:a≤b)(hb:b≤s.size)(h1: ∀j,(hj:j<s.size)→j<a→isBlank s[j])(h2: ∀h:a<b,¬isBlank s[a])(h3: ∀j,(hj:j<s.size)→b≤j→isBlank s[j])(h4: ∀h:a<b,¬isBlank s[b-1]):
  s.extract a b=⟨(Lib.trimS s.data.toList blanks4).toArray⟩:=by
 have hlen:s.data.toList.length=s.size:=by simp
 have at': ∀(j:Nat) x,s.data.toList[j]? =some x→ ∃hj:j<s.size,s[j]=x:=by
  intro j x hx
  obtain ⟨hj,he⟩:=List.getElem?_eq_some_iff.1 hx
  exact ⟨by omega,he⟩
 have key:Lib.trimS s.data.toList blanks4=(s.data.toList.take b).drop a:=by
  unfold Lib.trimS
  by_cases hlt:a<b
  ·have e:Lib.trimRightS s.data.toList blanks4=s.data.toList.take b:=by
    refine Lib.trimRightS_take _ _ b (by omega) (fun j x hj hx=> ?_) (fun x _ hx=> ?_)
    ·obtain ⟨hj',rfl⟩:=at' j x hx
     exact blank_yes (h3 j hj' hj)
    obtain ⟨_,rfl⟩:=at' _ x hx
    exact blank_no (h4 hlt)
   rw[e]
   refine Lib.trimLeftS_drop _ _ a (by rw[List.length_take];omega) (fun j x hj hx=> ?_) (fun x hx=> ?_)
   ·rw[List.getElem?_take,if_pos (by omega)]at hx
    obtain ⟨hj',rfl⟩:=at' j x hx
    exact blank_yes (h1 j hj' hj)
   rw[List.getElem?_take,if_pos hlt]at hx
   obtain ⟨_,rfl⟩:=at' a x hx
   exact blank_no (h2 hlt)
  have e:Lib.trimRightS s.data.toList blanks4=s.data.toList.take 0:=by
   refine Lib.trimRightS_take _ _ 0 (by omega) (fun j x hj hx=> ?_) (fun x h _=>by omega)
   obtain ⟨hj',rfl⟩:=at' j x hx
   rcases Nat.lt_or_ge j a with h|h
   ·exact blank_yes (h1 j hj' h)
   exact blank_yes (h3 j hj' (by omega))
  rw[e,List.drop_eq_nil_of_le (by rw[List.length_take];omega)]
  rfl
 rw[key]
 apply ByteArray.ext
 rw[ByteArray.data_extract]
 apply Array.ext'
 rw[Array.toList_extract,List.drop_take]
theorem l1Blank_yes(c:UInt8)(w:World)(h:isBlank c):
  Calls Tryz.prog 95 #[.int .u8 (c.toNat:Int)] w fun e w'=>e=.returned (.bool true)∧w=w':=by
 by_cases a:(c.toNat:Int)=32
 ·have a':((c.toNat:Int)==32)=true:=by simp[a]
  clear a h
  go_enter Tryz.func95,Tryz.ntmps95
  go_wp2
  go_ret
  exact ⟨rfl,rfl⟩
 have a':((c.toNat:Int)==32)=false:=by simp[a]
 by_cases b:(c.toNat:Int)=9
 ·have b':((c.toNat:Int)==9)=true:=by simp[b]
  clear a b h
  go_enter Tryz.func95,Tryz.ntmps95
  go_wp2
  go_ret
  exact ⟨rfl,rfl⟩
 have b':((c.toNat:Int)==9)=false:=by simp[b]
 by_cases d:(c.toNat:Int)=10
 ·have d':((c.toNat:Int)==10)=true:=by simp[d]
  clear a b d h
  go_enter Tryz.func95,Tryz.ntmps95
  go_wp2
  go_ret
  exact ⟨rfl,rfl⟩
 have d':((c.toNat:Int)==10)=false:=by simp[d]
 have e':((c.toNat:Int)==13)=true:=by
  unfold isBlank at h
  simp;omega
 clear a b d h
 go_enter Tryz.func95,Tryz.ntmps95
 go_wp2
 go_ret
 exact ⟨rfl,rfl⟩
theorem l1Blank_no(c:UInt8)(w:World)(h: ¬isBlank c):
  Calls Tryz.prog 95 #[.int .u8 (c.toNat:Int)] w fun e w'=>e=.returned (.bool false)∧w=w':=by
 unfold isBlank at h
 have a':((c.toNat:Int)==32)=false:=by simp;omega
 have b':((c.toNat:Int)==9)=false:=by simp;omega
 have d':((c.toNat:Int)==10)=false:=by simp;omega
 have e':((c.toNat:Int)==13)=false:=by simp;omega
 clear h
 go_enter Tryz.func95,Tryz.ntmps95
 go_wp2
 go_ret
 exact ⟨rfl,rfl⟩
theorem specTrim(s:ByteArray)(w:World)(hs:s.size≤1099511627776):
  Calls Tryz.prog 68 #[.string s] w fun e w'=>e=.returned (.string ⟨(Lib.trimS s.data.toList blanks4).toArray⟩)∧w=w':=by
 go_enter Tryz.func68,Tryz.ntmps68
 go_wp2
 go_loop[3] (fun i=> ∃k:Nat,k≤s.size∧i=.int .i64 k∧ ∀j,(hj:j<s.size)→j<k→isBlank s[j]) (fun i=>s.size-(intOf i).toNat)
 case atStart=>exact ⟨0,Nat.zero_le _,rfl,fun j _ h=>by omega⟩
 obtain ⟨k,hk,rfl,hall⟩:=hrel
 have HA:Hid (∀j,(hj:j<s.size)→j<k→isBlank s[j]):=hall
 clear hall
 by_cases hlt:k<s.size
 ·by_cases hb:isBlank s[k]
  ·have HB:Hid (isBlank s[k]):=hb
   clear hb
   go_wp2_with (go_at_call 95;refine (l1Blank_yes _ _ HB.out).mono ?_;rintro e w' ⟨rfl,rfl⟩)
   go_round
   case rel=>
    refine ⟨k+1,by omega,by go_num,fun j hj h=> ?_⟩
    by_cases e:j=k
    ·subst e;exact HB.out
    exact HA.out j hj (by omega)
   case measure=>simp[intOf];omega
  have HB:Hid (∀h:k<s.size,¬isBlank s[k]):=fun _=>hb
  have HB1:Hid (¬isBlank s[k]):=hb
  clear hb
  go_wp2_with (go_at_call 95;refine (l1Blank_no _ _ HB1.out).mono ?_;rintro e w' ⟨rfl,rfl⟩)
  go_loop[4] (fun i=> ∃m:Nat,k<m∧m≤s.size∧i=.int .i64 m∧ ∀j,(hj:j<s.size)→m≤j→isBlank s[j]) (fun i=>(intOf i).toNat)
  case atStart=>exact ⟨s.size,hlt,Nat.le_refl _,rfl,fun j hj h=>by omega⟩
  obtain ⟨m,hkm,hm,rfl,hall⟩:=hrel
  have HC:Hid (∀j,(hj:j<s.size)→m≤j→isBlank s[j]):=hall
  clear hall
  have hm1:m-1<s.size:=by omega
  have hcast:((m:Int)-1)=((m-1:Nat):Int):=by omega
  by_cases hb:isBlank s[m-1]
  ·have HD:Hid (isBlank s[m-1]):=hb
   have hne:k<m-1:=by
    rcases Nat.lt_or_ge k (m-1)with h|h
    ·exact h
    have e:m-1=k:=by omega
    have:isBlank s[k]:=by simpa[e] using hb
    exact absurd this HB1.out
   clear hb
   go_wp2_with (go_at_call 95;refine (l1Blank_yes _ _ HD.out).mono ?_;rintro e w' ⟨rfl,rfl⟩)
   go_round
   case rel=>
    refine ⟨m-1,hne,by omega,by go_num,fun j hj h=> ?_⟩
    by_cases e:j=m-1
    ·subst e;exact HD.out
    exact HC.out j hj (by omega)
   case measure=>simp[intOf];omega
  have HD:Hid (¬isBlank s[m-1]):=hb
  clear hb
  go_wp2_with (go_at_call 95;refine (l1Blank_no _ _ HD.out).mono ?_;rintro e w' ⟨rfl,rfl⟩)
  go_ret
  refine ⟨?_,rfl⟩
  exact congrArg (fun b:ByteArray=>Ending.returned (.string b)) (trim_eq s k m (by omega) hm HA.out (fun _=>HB1.out) HC.out (fun _=>HD.out))
 have hks:k=s.size:=by omega
 have HK:Hid (k=s.size):=hks
 clear hks
 go_wp2
 refine wp_loop_rounds 1 ?_
 rw[rounds_succ]
 go_wp2
 go_ret
 refine ⟨?_,rfl⟩
 exact congrArg (fun b:ByteArray=>Ending.returned (.string b)) (trim_eq s k s.size (by omega) (Nat.le_refl _) HA.out (fun h=>by omega) (fun j hj h=>by omega) (fun h=>by omega))
theorem trimS_le (l cs : List UInt8) : (Lib.trimS l cs).length ≤ l.length := by
 have a : ∀ m : List UInt8, (m.dropWhile (cs.contains ·)).length ≤ m.length := fun m => (List.dropWhile_sublist _).length_le
 unfold Lib.trimS Lib.trimLeftS Lib.trimRightS
 refine Nat.le_trans (a _) ?_
 rw [List.length_reverse]
 refine Nat.le_trans (a _) ?_
 rw [List.length_reverse]
 exact Nat.le_refl _
end Go.Proofs.YtijliddchoehhaaGreatDoor
