/- EntImpl3. -/
import Derived.Test.YtfdgehlobbeomaaGreatDoorQM13
import Derived.Test.YtfdgehlobbeomaaGreatDoorQM23
import Derived.Test.YtfdgehlobbeomaaGreatDoorQM26
set_option maxHeartbeats 8000000
set_option maxRecDepth 100000
namespace Go.Proofs.YtfdgehlobbeomaaGreatDoor
open Go.RowKit
set_option linter.unusedVariables false
set_option linter.unusedSimpArgs false
theorem ents_step{n:Nat}{N:ByteArray}{rest:List TV}{acc R:List EV}(h:entsE (n+1) N rest acc=.ok R)(hr:rest≠[]): ∃wi be e,cutE 3 rest=.ok (N,wi,be)∧entryE wi=.ok e∧entsE n N be (acc++[e])=.ok R:=by
 rw[entsE,if_neg hr]at h
 cases hc:cutE 3 rest with
 |error c=>rw[hc]at h;cases h
 |ok x=>
  obtain ⟨nm,wi,be⟩:=x
  rw[hc]at h
  dsimp only at h
  by_cases h1:nm=N
  ·rw[if_pos h1]at h
   cases ht:entryE wi with
   |error c=>rw[ht]at h;cases h
   |ok t=>rw[ht]at h;exact ⟨wi,be,t,by rw[h1],ht,h⟩
  rw[if_neg h1]at h;cases h
theorem ents_end{n:Nat}{N:ByteArray}{acc R:List EV}(h:entsE (n+1) N [] acc=.ok R):R=acc∧acc.length≤200:=by
 rw[entsE,if_pos rfl]at h
 split at h
 ·rename_i hh
  injection h with h
  exact ⟨h.symm,hh⟩
 cases h
theorem implReadEntries(nm0 N:ByteArray)(l:List TV)(v:Value)(R:List EV)(w:World)(hl:l.length≤1048576)(hz:(textsL l).length≤16777216)(h:TokRow w v l)(hE:entsE (l.length+1) N l []=.ok R):
  Calls Tryz.prog 44 #[.agg #[.string nm0,v],.string N] w fun e w'=>(∃v',e=.returned v'∧w'.ownsRow w.heap.size 32 2 v' R.length (ecells R))∧Below w.heap.size w w':=by
 have HE0:Hid (entsE (l.length+1) N l []=.ok R):=hE
 obtain ⟨vo,vc,rfl⟩:=h.slice
 have HROW:Hid (TokRow w (.slice vo l.length vc) l):=h
 clear h hE
 obtain ⟨O,hO⟩: ∃O,O=(w.alloc (.cells #[.string nm0,.slice vo l.length vc] 87)).alloc (.cells #[] 32):=⟨_,rfl⟩
 have bO:Below w.heap.size w O:=by rw[hO];exact ((Below.refl _ _).alloc (Nat.le_refl _) _).alloc (by simp) _
 have AO:BAt O w.heap.size [.string nm0,.slice vo l.length vc]:=by rw[hO];exact (BAt.new w #[.string nm0,.slice vo l.length vc] _).alloc _
 have HO0:Hid (O.ownsRow w.heap.size 32 2 (.slice (some ⟨w.heap.size+1,0,none⟩) 0 0) 0 (ecells [])):=by
  rw[hO]
  have:=World.ownsRow_lit (w.alloc (.cells #[.string nm0,.slice vo l.length vc] 87)) (e:=32) (size:=2) (base:=w.heap.size) #[] 0 (by simp) (by decide) rfl
  simp only[World.size_alloc]at this
  exact this
 have c1:=AO.1 1 _ rfl
 go_enter Tryz.func44,Tryz.ntmps44
 go_upto_region 2 with fail
 rw[←hO]
 clear hO AO
 go_wp2_with fail
 clear c1
 go_loopw[5,6] (fun a r wr=> ∃(n:Nat) (rest:List TV) (ro:Option Addr) (rc:Nat) (acc:List EV),r=.slice ro rest.length rc∧acc.length+rest.length≤l.length∧rest.length<n∧Hid (entsE n N rest acc=.ok R)∧Hid (TokRow w (.slice ro rest.length rc) rest)∧Hid (wr.ownsRow w.heap.size 32 2 a acc.length (ecells acc))∧(textsL rest).length≤16777216∧Below w.heap.size w wr) (fun _ r _=>lenV r)
 case atStart=>exact ⟨l.length+1,l,vo,vc,[],rfl,by simp,by omega,HE0,HROW,HO0,hz,bO⟩
 obtain ⟨n,rest,ro,rc,acc,rfl,hcnt,hfuel,HP,HR,HO,hzr,hbel⟩:=hrel
 clear HO0 HE0 bO HROW
 obtain ⟨n,rfl⟩: ∃m,n=m+1:=⟨n-1,by omega⟩
 by_cases hr:rest=[]
 ·subst hr
  obtain ⟨hRa,h200⟩:=ents_end HP.out
  subst hRa
  obtain ⟨ao,ac,rfl⟩:=(EntRow.of_own' HO.out).slice
  have h2i:(R.length:Int)≤200:=by omega
  clear HP HR hcnt hfuel
  go_wp2_with (go_at_call 43;refine (implInsist _ _).mono ?_;rintro e w' ⟨rfl,rfl⟩)
  go_ret
  exact ⟨⟨_,rfl,HO.out⟩,hbel⟩
 obtain ⟨wi,be,x,hcut,hent,hp⟩:=ents_step HP.out hr
 have hpos:(0:Int)<rest.length:=by
  have:rest.length≠0:=fun e=>hr (List.eq_nil_of_length_eq_zero e)
  omega
 obtain ⟨k1,k2,k3,k4⟩:=cutE_le hcut
 have CE:=hidB (implCutElement rest (.slice ro rest.length rc) 3 N wi be wr (by omega) (HR.out.below hbel) hcut)
 have HP1:Hid (entsE n N be (acc++[x])=.ok R):=hp
 have HEN:Hid (entryE wi=.ok x):=hent
 clear hcut HP hp hent
 go_wp2_with fail
 refine CE.out.mono ?_
 rintro e w1 ⟨⟨va,vb,rfl,hsub⟩,b1⟩
 obtain ⟨ta,tb⟩:=hsub w HR.out
 obtain ⟨xo,xc,rfl⟩:=ta.slice
 obtain ⟨bo,bc,rfl⟩:=tb.slice
 have HTA:Hid (TokRow w (.slice xo wi.length xc) wi):=ta
 have HTB:Hid (TokRow w (.slice bo be.length bc) be):=tb
 have HO1:Hid (w1.ownsRow w.heap.size 32 2 u5 acc.length (ecells acc)):=own_below HO.out b1
 have B1:=hbel.trans (b1.mono hbel.size)
 clear ta tb hsub CE HO HR b1 hbel
 obtain ⟨U,hU⟩: ∃U,U=w1.alloc (.cells #[.string N,.slice xo wi.length xc] 87):=⟨_,rfl⟩
 have bU:Below w1.heap.size w1 U:=by rw[hU];exact (Below.refl _ _).alloc (Nat.le_refl _) _
 have AU:BAt U w1.heap.size [.string N,.slice xo wi.length xc]:=by rw[hU];exact BAt.new w1 #[.string N,.slice xo wi.length xc] _
 have HOU:Hid (U.ownsRow w.heap.size 32 2 u5 acc.length (ecells acc)):=own_below HO1.out bU
 have BU:Below w.heap.size w U:=B1.trans (bU.mono B1.size)
 have d0:=AU.1 0 _ rfl
 have d1:=AU.1 1 _ rfl
 go_upto_region 5 with fail
 rw[←hU]
 clear hU bU AU HO1 B1
 generalize w1.heap.size=D at*
 have CX:=hidB (implReadEntry N wi (.slice xo wi.length xc) x U (by omega) (by omega) (HTA.out.below BU) HEN.out)
 clear HEN HTA
 go_wp2_with (go_at_call 43;refine (implInsist _ _).mono ?_;rintro e w' ⟨rfl,rfl⟩)
 refine CX.out.mono ?_
 rintro e w2 ⟨rfl,b2⟩
 have ow:=own_below HOU.out b2
 have B2:=BU.trans (b2.mono BU.size)
 have hsz:=B2.size
 clear HOU CX b2 d0 d1 BU
 go_wp2_with (at_builtin;refine wpList_append_rule _ rfl _ _ 24 rfl w.heap.size 32 (.agg #[.string ⟨#[]⟩,.int .i64 0]) 24 Tryz.underlying24 Tryz.infoEnt rfl _ _ _ rfl ow (.string x.s) (.int .i64 x.k) rfl rfl rfl (by omega) (by unfold maxLen;omega) hsz ?_)
 intro v' w3 o3 g3 p3
 have HO3:Hid (w3.ownsRow w.heap.size 32 2 v' (acc++[x]).length (ecells (acc++[x]))):=by
  rw[List.length_append,ecells_append]
  exact o3
 have B3:=B2.grown g3 hsz (fun k hk=>(ow.lt k hk).1)
 clear o3 g3 p3 ow B2
 go_wp2_with fail
 go_roundw
 case rel=>exact ⟨n,be,bo,bc,acc++[x],rfl,by rw[List.length_append,List.length_singleton];omega,by omega,HP1,HTB,HO3,by omega,B3⟩
 case measure=>show be.length<rest.length;omega
theorem implTelling(s:ByteArray)(w:World)(hs:s.size≤16777216)(hE:Esc w)(hM:MaxI w)(h0:(toksI s.data.toList).2=0)(hb:balL (toksI s.data.toList).1=true)(hl:(toksI s.data.toList).1.length≤1048576)(hz: ∀t∈(toksI s.data.toList).1,t.s.size≤16777216):
  Calls Tryz.prog 42 #[.string s] w fun e w'=>(∃v',e=.returned v'∧TokRow w' v' ((toksI s.data.toList).1.filter fun t=> !blkT t))∧Below w.heap.size w w':=by
 have CT:=hidB (implTokens s w hs hE hM)
 have HZ:Hid (∀t∈(toksI s.data.toList).1,t.s.size≤16777216):=hz
 have HB:Hid (balL (toksI s.data.toList).1=true):=hb
 rw[show toksI s.data.toList=((toksI s.data.toList).1,0) from by rw[←h0]]at CT
 clear hE hM hz hb h0
 generalize (toksI s.data.toList).1=L at*
 go_enter Tryz.func42,Tryz.ntmps42
 go_wp2_with fail
 refine CT.out.mono ?_
 rintro e w1 ⟨v1,rfl,o1,b1⟩
 have HO1:Hid (w1.ownsRow w.heap.size 74 2 v1 L.length (tcells L)):=o1
 obtain ⟨ao,ac,rfl⟩:=(TokRow.of_own o1 (tcells_at L)).slice
 have CB:=hidB (implBalanced L (.slice ao L.length ac) w1 (by omega) (TokRow.of_own o1 (tcells_at L)))
 rw[HB.out]at CB
 clear o1 CT
 go_wp2_with fail
 refine CB.out.mono ?_
 rintro e w2 ⟨rfl,b2⟩
 have HO2:Hid (w2.ownsRow w.heap.size 74 2 (.slice ao L.length ac) L.length (tcells L)):=own_below HO1.out b2
 have B2:=b1.trans (b2.mono b1.size)
 have CD:=hidB (implDelete L (.slice ao L.length ac) w.heap.size w2 hl HZ.out B2.size HO2.out)
 clear CB HO1 HO2 b1 b2
 go_wp2_with (go_at_call 43;refine (implInsist _ _).mono ?_;rintro e w' ⟨rfl,rfl⟩)
 refine CD.out.mono ?_
 rintro e w3 ⟨⟨v3,rfl,t3⟩,b3⟩
 have HT3:Hid (TokRow w3 v3 (L.filter fun t=> !blkT t)):=t3
 clear t3 CD
 go_wp2_with fail
 go_ret
 exact ⟨⟨_,rfl,HT3.out⟩,B2.trans b3⟩
theorem filter_texts(p:TV→Bool): ∀l:List TV,(textsL (l.filter p)).length≤(textsL l).length
 |[]=>Nat.le_refl _
 |t::l=>by
  have ih:=filter_texts p l
  have e:textsL (t::l)=t.s.data.toList++textsL l:=by unfold textsL;rw[List.flatMap_cons]
  rw[List.filter_cons,e,List.length_append]
  split
  ·have e2:textsL (t::l.filter p)=t.s.data.toList++textsL (l.filter p):=by unfold textsL;rw[List.flatMap_cons]
   rw[e2,List.length_append]
   omega
  omega
theorem texts_mem{l:List TV}{t:TV}(h:t∈l):t.s.size≤(textsL l).length:=by
 obtain ⟨a,b,rfl⟩:=List.append_of_mem h
 have e:textsL (t::b)=t.s.data.toList++textsL b:=by unfold textsL;rw[List.flatMap_cons]
 have h2:t.s.data.toList.length=t.s.size:=by simp
 rw[texts_app,e,List.length_append,List.length_append]
 omega
theorem map_parts{ts:List TV}{b:Bool}{R:List EV}(h:mapE ts=.ok (b,R)): ∃wi,cutE 2 ts=.ok (bytesV (rootN b),wi,[])∧entsE (wi.length+1) (bytesV (entN b)) wi []=.ok R:=by
 unfold mapE at h
 cases hc:cutE 2 ts with
 |error c=>rw[hc]at h;cases h
 |ok x=>
  obtain ⟨nm,wi,be⟩:=x
  rw[hc]at h
  dsimp only at h
  split at h
  ·rename_i hh
   cases he:entsE (wi.length+1) (bytesV (entN (decide (nm=bytesV nIndex)))) wi []with
   |error c=>rw[he]at h;cases h
   |ok l=>
    rw[he]at h
    injection h with h
    injection h with h1 h2
    subst h2
    rw[h1]at he hh
    refine ⟨wi,?_,he⟩
    rw[hh.2,←hh.1]
  cases h
theorem implReadSitemap(s:ByteArray)(b:Bool)(R:List EV)(w:World)(hs:s.size≤16777216)(hE:Esc w)(hM:MaxI w)(hz:(textsL (toksI s.data.toList).1).length≤16777216)(hl:(toksI s.data.toList).1.length≤1048576)(h:readM s.data.toList=.ok (b,R)):
  Calls Tryz.prog 23 #[.string s] w fun e w'=>(∃v',e=.returned (.agg #[.bool b,v'])∧w'.ownsRow w.heap.size 32 2 v' R.length (ecells R))∧Below w.heap.size w w':=by
 obtain ⟨⟨h0,hb⟩,hm⟩:((toksI s.data.toList).2=0∧balL (toksI s.data.toList).1=true)∧mapE ((toksI s.data.toList).1.filter fun t=> !blkT t)=.ok (b,R):=by
  unfold readM at h
  split at h
  ·rename_i hh;exact ⟨hh,h⟩
  cases h
 obtain ⟨wi,hcut,hents⟩:=map_parts hm
 obtain ⟨W0,hW0⟩: ∃W0,W0=w.alloc (.cells #[.bool false,.slice none 0 0] 26):=⟨_,rfl⟩
 have bW:Below w.heap.size w W0:=by rw[hW0];exact (Below.refl _ _).alloc (Nat.le_refl _) _
 have AW:BAt W0 w.heap.size [.bool false,.slice none 0 0]:=by rw[hW0];exact BAt.new w #[.bool false,.slice none 0 0] _
 have HAW:Hid (BAt W0 w.heap.size [.bool false,.slice none 0 0]):=AW
 have CT:=hidB (implTelling s W0 hs (hE.later bW) (max_below hM bW) h0 hb hl (fun t ht=>Nat.le_trans (texts_mem ht) hz))
 have hfz:(textsL ((toksI s.data.toList).1.filter fun t=> !blkT t)).length≤16777216:=Nat.le_trans (filter_texts _ _) hz
 have hfl:((toksI s.data.toList).1.filter fun t=> !blkT t).length≤1048576:=Nat.le_trans (List.length_filter_le _ _) hl
 have HC:Hid (cutE 2 ((toksI s.data.toList).1.filter fun t=> !blkT t)=.ok (bytesV (rootN b),wi,[])):=hcut
 have HEN:Hid (entsE (wi.length+1) (bytesV (entN b)) wi []=.ok R):=hents
 obtain ⟨k1,k2,k3,k4⟩:=cutE_le hcut
 clear h h0 hb hm hcut hents hz hl hE hM AW k2 k4
 generalize ((toksI s.data.toList).1.filter fun t=> !blkT t)=L at*
 go_enter Tryz.func23,Tryz.ntmps23
 go_upto_region 1 with fail
 rw[←hW0]
 have hsW:W0.heap.size=w.heap.size+1:=by rw[hW0];simp
 clear hW0
 go_wp2_with fail
 refine CT.out.mono ?_
 rintro e w1 ⟨⟨v1,rfl,t1⟩,b1⟩
 have CE:=hidB (implCutElement L v1 2 (bytesV (rootN b)) wi [] w1 hfl t1 HC.out)
 have HT1:Hid (TokRow w1 v1 L):=t1
 clear t1 CT HC
 go_wp2_with fail
 refine CE.out.mono ?_
 rintro e w2 ⟨⟨va,vb,rfl,hsub⟩,b2⟩
 obtain ⟨ta,tb⟩:=hsub w1 HT1.out
 obtain ⟨xo,xc,rfl⟩:=ta.slice
 obtain ⟨bo,bc,rfl⟩:=tb.slice
 have HTA:Hid (TokRow w2 (.slice xo wi.length xc) wi):=ta.below b2
 have B2:=b1.trans (b2.mono b1.size)
 clear ta tb hsub CE HT1 b2 b1
 obtain ⟨U,hU⟩: ∃U,U=w2.alloc (.cells #[.string (bytesV (rootN b)),.slice xo wi.length xc] 87):=⟨_,rfl⟩
 have bU:Below w2.heap.size w2 U:=by rw[hU];exact (Below.refl _ _).alloc (Nat.le_refl _) _
 have AU:BAt U w2.heap.size [.string (bytesV (rootN b)),.slice xo wi.length xc]:=by rw[hU];exact BAt.new w2 #[.string (bytesV (rootN b)),.slice xo wi.length xc] _
 have HTU:Hid (TokRow U (.slice xo wi.length xc) wi):=HTA.out.below bU
 have BU:=B2.trans (bU.mono B2.size)
 have d0:=AU.1 0 _ rfl
 have d1:=AU.1 1 _ rfl
 go_upto_region 2 with fail
 rw[←hU]
 clear hU bU AU HTA B2
 generalize w2.heap.size=D at*
 have CX:=hidB (implReadEntries (bytesV (rootN b)) (bytesV (entN b)) wi (.slice xo wi.length xc) R U (by omega) (by omega) HTU.out HEN.out)
 have CN:=hidB (fun W=>implNamesOf b W)
 clear HTU HEN
 have hmeet:(∀(RB EB:ByteArray),bytesV (rootN b)=RB→bytesV (entN b)=EB→rtV b=RB→nmV b=EB→(RB.toList==[115,105,116,101,109,97,112,105,110,100,101,120])=b→True):=fun _ _ _ _ _ _ _=>trivial
 have hidx:((bytesV (rootN b)).toList==[115,105,116,101,109,97,112,105,110,100,101,120])=b:=by
  rw[ByteArray.toList_eq]
  cases b<;>rfl
 rw[show rtV b=bytesV (rootN b) from rfl,show nmV b=bytesV (entN b) from rfl]at CN
 clear hmeet
 generalize bytesV (rootN b)=RB at*
 generalize bytesV (entN b)=EB at*
 go_wp2_with (first|(go_at_call 16;refine (CN.out _).mono ?_;rintro e w' ⟨rfl,rfl⟩)|(go_at_call 43;refine (implInsist _ _).mono ?_;rintro e w' ⟨rfl,rfl⟩))
 refine CX.out.mono ?_
 rintro e w3 ⟨⟨v3,rfl,o3⟩,b3⟩
 have A3:BAt w3 w.heap.size [.bool false,.slice none 0 0]:=HAW.out.below (BU.trans (b3.mono BU.size))
 have HO3:Hid (w3.ownsRow U.heap.size 32 2 v3 R.length (ecells R)):=o3
 have B3:=bW.trans ((BU.trans (b3.mono BU.size)).mono bW.size)
 have hUs:=BU.size
 obtain ⟨eo,ec,rfl⟩:=(EntRow.of_own' o3).slice
 clear o3 CX b3
 have a0:=A3.1 0 _ rfl
 have a1:=A3.1 1 _ rfl
 have f0:=A3.2.1
 have A4:Hid (BAt ((w3.setCell ⟨w.heap.size,0,none⟩ (.bool b)).setCell ⟨w.heap.size,1,none⟩ (.slice eo R.length ec)) w.heap.size [.bool b,.slice eo R.length ec]):=(A3.set 0 (by simp) (.bool b)).set 1 (by simp) (.slice eo R.length ec)
 go_wp2_with fail
 refine bodyPost_ret (map_result1 rfl _ _ w.heap.size (.bool b) (.slice eo R.length ec) rfl A4.out) rfl ⟨⟨_,rfl,?_⟩,?_⟩
 ·have k1:=own_put HO3.out (C:=w.heap.size) (by omega) 0 (.bool b)
  have k2:=own_put k1 (C:=w.heap.size) (by omega) 1 (.slice eo R.length ec)
  exact own_base k2 (by omega)
 exact (B3.setCell (p:=⟨w.heap.size,0,none⟩) (Nat.le_refl _) _).setCell (p:=⟨w.heap.size,1,none⟩) (Nat.le_refl _) _
end Go.Proofs.YtfdgehlobbeomaaGreatDoor
