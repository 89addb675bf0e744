/- ReadImpl, DecImpl. -/
import Derived.Test.YtijliddchoehhaaGreatDoorQA20
import Derived.Test.YtijliddchoehhaaGreatDoorQA19
set_option maxHeartbeats 8000000
set_option maxRecDepth 20000
namespace Go.Proofs.YtijliddchoehhaaGreatDoor
open Go.RowKit Go.Shelf
def rawI(basic:Nat):Nat→List Nat→Nat→Nat→Nat→List Nat→Option (List Nat)
 |_,[],_,_,_,out=>some out
 |0,_::_,_,_,_,_=>none
 |f+1,v::vs,n,i,bias,out=>
  match cutL bias 36 0 1 (v::vs)with
  |none=>none
  |some (more,rest)=>rawI basic f rest (n+(i+more)/(out.length+1)) ((i+more)%(out.length+1)+1) (adaptN more (out.length+1) (out.length==basic)) (insAt ((i+more)%(out.length+1)) (n+(i+more)/(out.length+1)) out)
theorem rawI_none{basic f:Nat}{vs:List Nat}{n i bias:Nat}{out:List Nat}(hv:vs≠[])(h:cutL bias 36 0 1 vs=none):rawI basic (f+1) vs n i bias out=none:=by
 cases vs with
 |nil=>exact absurd rfl hv
 |cons v vs=>rw[rawI,h]
theorem rawI_some{basic f:Nat}{vs:List Nat}{n i bias:Nat}{out:List Nat}{more:Nat}{rest:List Nat}(hv:vs≠[])(h:cutL bias 36 0 1 vs=some (more,rest)):
  rawI basic (f+1) vs n i bias out=rawI basic f rest (n+(i+more)/(out.length+1)) ((i+more)%(out.length+1)+1) (adaptN more (out.length+1) (out.length==basic)) (insAt ((i+more)%(out.length+1)) (n+(i+more)/(out.length+1)) out):=by
 cases vs with
 |nil=>exact absurd rfl hv
 |cons v vs=>rw[rawI,h]
theorem rawI_of(basic:Nat): ∀(f:Nat) (vs:List Nat) (n i bias:Nat) (out l:List Nat),128≤n→rawL basic f vs n i bias out=some l→rawI basic f vs n i bias out=some l
 |f,[],n,i,bias,out,l,_,h=>by
  cases f<;>simpa[rawL,rawI] using h
 |0,v::vs,n,i,bias,out,l,_,h=>by simp[rawL]at h
 |f+1,v::vs,n,i,bias,out,l,hn,h=>by
  rw[rawL]at h
  cases hr:readL bias 36 0 1 (v::vs)with
  |none=>rw[hr]at h;cases h
  |some mr=>
   obtain ⟨more,rest⟩:=mr
   rw[hr]at h
   simp only at h
   split at h
   ·cases h
   next hno=>
   have hm:more≤66846660:=by
    have h1:(i+more)/(out.length+1)≤1113983:=by omega
    have h2:i+more<(1113983+1)*(out.length+1):=by
     have:=Nat.div_lt_iff_lt_mul (x:=i+more) (y:=1113983+1) (k:=out.length+1) (by omega)
     exact this.1 (by omega)
    have h3:(1113983+1)*(out.length+1)≤1113984*60:=Nat.mul_le_mul_left _ (by omega)
    omega
   rw[rawI,cut_of_read bias _ _ _ _ _ _ hr hm]
   exact rawI_of basic f rest _ _ _ _ l (Nat.le_trans hn (Nat.le_add_right _ _)) h
theorem implDash(s:ByteArray)(w:World)(hs:(s.size:Int)≤1048576):
  Calls Tryz.prog 159 #[.string s,.int .u8 45] w fun e w'=> ∃r:Int,e=.returned (.int .i64 r)∧w=w'∧((r= -1∧splitD (sN s)=none)∨ ∃k:Nat,k<s.size∧r=(k:Int)∧splitD (sN s)=some ((sN s).take k,(sN s).drop (k+1))):=by
 refine (Tryz.strings_LastIndexByte s 45 (by omega) w).mono ?_
 rintro e w' ⟨rfl,rfl⟩
 refine ⟨_,rfl,rfl,?_⟩
 have hget: ∀j,j<s.size→(sN s)[j]? =some (s.data[j]!).toNat:=by
  intro j hj
  have hj':j<s.data.size:=hj
  simp only[sN,List.getElem?_map]
  rw[Array.getElem?_toList,Array.getElem?_eq_getElem hj',getElem!_pos s.data j hj']
  rfl
 rcases Lib.lastIndexByte_spec s 45 with ⟨h1,h2⟩|⟨k,hk,h1,h2,h3⟩
 ·refine .inl ⟨h1,split_none _ ?_⟩
  intro c hc h45
  obtain ⟨j,hj,he⟩:=List.getElem_of_mem hc
  rw[sN_length]at hj
  have h4:=hget j hj
  rw[List.getElem?_eq_getElem (by rw[sN_length];exact hj),he]at h4
  have h5:=h2 j hj
  injection h4 with h4
  omega
 refine .inr ⟨k,hk,h1,?_⟩
 have hl:((sN s).take k).length=k:=by rw[List.length_take,sN_length];omega
 have h:=split_back ((sN s).take k) (sN s) (by
  rw[hl]
  intro c hc h45
  obtain ⟨j,hj,he⟩:=List.getElem_of_mem hc
  rw[List.length_drop,sN_length]at hj
  rw[List.getElem_drop]at he
  have h4:=hget (k+1+j) (by omega)
  rw[List.getElem?_eq_getElem (by rw[sN_length];omega),he]at h4
  have h5:=h3 (k+1+j) (by omega) (by omega)
  injection h4 with h4
  omega) (by rw[hl]) (by
  rw[hl,hget k hk]
  congr 1
  omega)
 rw[hl]at h
 exact h
def strLen:Value→Nat
 | .string u=>u.size
 |_=>0
theorem strLen_eq(u:ByteArray):strLen (.string u)=u.size:=rfl
def readIAns(w w':World)(r:Option (List Nat))(e:Ending):Prop:=
 (r=none∧e=.returned (.tuple #[.slice none 0 0,.bool false]))∨ ∃(l:List Nat) (v:Value),r=some l∧l.length≤600∧e=.returned (.tuple #[v,.bool true])∧w'.ownsRow w.heap.size 3 1 v l.length (icN l)
theorem implRead(s:ByteArray)(w:World)(hs600:(s.size:Int)≤600):
  Calls Tryz.prog 144 #[.string s] w fun e w'=>((∃k:Nat,0<k∧k<s.size∧splitD (sN s)=some ((sN s).take k,(sN s).drop (k+1))∧readIAns w w' (rawI k s.size (((sN s).drop (k+1)).map valB) 128 0 72 ((sN s).take k)) e)∨
   ((splitD (sN s)=none∨splitD (sN s)=some ([],(sN s).drop 1))∧readIAns w w' (rawI 0 s.size ((sN s).map valB) 128 0 72 []) e))∧Below w.heap.size w w':=by
 have HZ:Hid ((w.alloc (.cells #[] 3)).ownsRow w.heap.size 3 1 (.slice (some ⟨w.heap.size,0,none⟩) 0 0) ([]:List Nat).length (icN [])):=World.ownsRow_lit w #[] 0 (Nat.le_refl _) (by decide) rfl
 have HB0:Hid (Below w.heap.size w (w.alloc (.cells #[] 3))):=(Below.refl _ _).alloc (Nat.le_refl _) _
 go_enter Tryz.func144,Tryz.ntmps144
 go_wp2_with fail
 refine (implDash _ _ (by omega)).mono ?_
 rintro e wz ⟨r,rfl,rfl,hr⟩
 have H128:Hid (128+s.size*66847300≤40108380128):=by show _≤_;omega
 rcases hr with ⟨rfl,hsp⟩|⟨k0,hk0,rfl,hsp⟩
 ·obtain ⟨R,hR⟩: ∃q,rawI 0 s.size ((sN s).map valB) 128 0 72 []=q:=⟨_,rfl⟩
  have HR:Hid (rawI 0 s.size ((sN s).map valB) 128 0 72 []=R):=hR
  have HA:Hid (∀(W:World) (e:Ending),readIAns w W R e→((∃k:Nat,0<k∧k<s.size∧splitD (sN s)=some ((sN s).take k,(sN s).drop (k+1))∧readIAns w W (rawI k s.size (((sN s).drop (k+1)).map valB) 128 0 72 ((sN s).take k)) e)∨
   ((splitD (sN s)=none∨splitD (sN s)=some ([],(sN s).drop 1))∧readIAns w W (rawI 0 s.size ((sN s).map valB) 128 0 72 []) e))):=fun W e h=> .inr ⟨.inl hsp,by rw[hR];exact h⟩
  clear hR hsp
  have hmx:max (-1:Int) 0=0:=by decide
  go_wp2_with fail
  refine wp_loop_rounds 1 ?_
  rw[rounds_succ]
  go_wp2_with fail
  go_loopw[4,7,8,9,10] (fun v a b c e wr=> ∃(u:ByteArray) (f n i bi:Nat) (out:List Nat),a=.string u∧b=.int .i64 n∧c=.int .i64 i∧e=.int .i64 bi∧out.length+u.size≤600∧u.size≤f∧n+u.size*66847300≤40108380128∧i≤out.length∧bi≤2400∧rawI 0 f ((sN u).map valB) n i bi out=R∧wr.ownsRow w.heap.size 3 1 v out.length (icN out)∧Below w.heap.size w wr)
   (fun _ a _ _ _ _=>strLen a)
  case round=>
   obtain ⟨u,f,n,i,bi,out,rfl,rfl,rfl,rfl,hou,hf,hn,hi,hbi,he,hown,hbel⟩:=hrel
   have HOW:Hid (wr.ownsRow w.heap.size 3 1 u4 out.length (icN out)):=hown
   have HBL:Hid (Below w.heap.size w wr):=hbel
   have hszr:=hbel.size
   have HE:Hid (rawI 0 f ((sN u).map valB) n i bi out=R):=he
   obtain ⟨ao,cp0,hu⟩:=own_slice hown
   clear hown hbel he
   subst hu
   by_cases hu0:u.size=0
   ·have hem:=empty_yes hu0
    have HRR:Hid (R=some out):=by
     show _=_
     rw[←HE.out,sN_zero hu0]
     cases f<;>rfl
    go_wp2_with fail
    go_ret2
    exact ⟨HA.out _ _ (.inr ⟨out,_,HRR.out,by omega,rfl,HOW.out⟩),HBL.out⟩
   have hup:0<u.size:=by omega
   have hem:=empty_no hup
   obtain ⟨f',rfl⟩: ∃j,f=j+1:=⟨f-1,by omega⟩
   have hne:(sN u).map valB≠[]:=by
    intro h
    have h1:((sN u).map valB).length=0:=by rw[h];rfl
    rw[List.length_map,sN_length]at h1
    omega
   have CUT:Hid (Calls Tryz.prog 160 #[.string u,.int .i64 (bi:Int)] wr fun e w'=>cutAns u bi e∧Below wr.heap.size wr w'):=implCut u bi wr (by omega) (by omega)
   have HNE:Hid ((sN u).map valB≠[]):=hne
   clear hu0 hne
   go_wp2_with fail
   refine CUT.out.mono ?_
   rintro e w2 ⟨hans,hb2⟩
   have B2:Hid (Below w.heap.size w w2):=HBL.out.trans (hb2.mono hszr)
   have O2:Hid (w2.ownsRow w.heap.size 3 1 (.slice ao out.length cp0) out.length (icN out)):=own_below HOW.out hb2
   have hsz2:w.heap.size≤w2.heap.size:=Nat.le_trans hszr hb2.size
   clear hb2
   rcases hans with ⟨hno,rfl⟩|⟨m,u',hyes,hm,hul,rfl⟩
   ·have HRR:Hid (R=none):=by
     show _=_
     rw[←HE.out]
     exact rawI_none HNE.out hno
    clear hno
    go_wp2_with fail
    go_ret2
    exact ⟨HA.out _ _ (.inl ⟨HRR.out,rfl⟩),B2.out⟩
   have HST:=rawI_some (basic:=0) (f:=f') (n:=n) (i:=i) (out:=out) HNE.out hyes
   have hdq1:(i+m)/(out.length+1)≤i+m:=Nat.div_le_self _ _
   have hps1:(i+m)%(out.length+1)<out.length+1:=Nat.mod_lt _ (by omega)
   have hQ:((i:Int)+(m:Int))/((out.length:Int)+1)=(((i+m)/(out.length+1):Nat):Int):=by norm_cast
   have hM:((i:Int)+(m:Int))%((out.length:Int)+1)=(((i+m)%(out.length+1):Nat):Int):=by norm_cast
   have HE2:Hid (rawI 0 f' ((sN u').map valB) (n+(i+m)/(out.length+1)) ((i+m)%(out.length+1)+1) (adaptN m (out.length+1) (out.length==0)) (insAt ((i+m)%(out.length+1)) (n+(i+m)/(out.length+1)) out)=R):=by
    show _=_
    rw[←HE.out]
    exact HST.symm
   clear HST hyes
   generalize (i+m)/(out.length+1)=dq at hQ HE2 hdq1
   generalize (i+m)%(out.length+1)=pos at hM HE2 hps1
   have hnz: ¬(out.length:Int)+1=0:=by omega
   have hnn:(n:Int)+(dq:Int)≤50000000000:=by omega
   have hmI:(m:Int)≤66846660:=by omega
   have hoI:(out.length:Int)≤600:=by omega
   have hiI:(i:Int)≤600:=by omega
   have hbd:n+dq+u'.size*66847300≤40108380128:=by omega
   have CTA:Hid (∀(first:Bool) (W:World),CS 141 #[.int .i64 (m:Int),.int .i64 ((out.length:Int)+1),.bool first] W (.int .i64 (adaptN m (out.length+1) first:Int))):=fun first W=>by
    have h:=implAdapt_in m (out.length+1) first W (by omega) (by omega) (by omega)
    rw[show ((out.length+1:Nat):Int)=(out.length:Int)+1 by omega]at h
    exact h
   have CIN:Hid (Calls Tryz.prog 161 #[.slice ao out.length cp0,.int .i64 (pos:Int),.slice (some ⟨w2.heap.size,0,none⟩) 1 1] (w2.alloc (.cells #[.int .i64 ((n:Int)+(dq:Int))] 3)) fun e w'=>
     ∃v',e=.returned v'∧w'.ownsRow w.heap.size 3 1 v' (out.length+1) (icN (insAt pos (n+dq) out))∧Below w.heap.size w2 w'):=by
    have h:=implInsert out pos (n+dq) (.slice ao out.length cp0) w.heap.size w2 O2.out hsz2 (by omega) (by omega)
    rw[show ((n+dq:Nat):Int)=(n:Int)+(dq:Int) by omega]at h
    exact h
   have hal:=adaptN_le m (out.length+1) (out.length==0)
   have hbq:((out.length:Int)==0)=(out.length==0):=by
    cases hq:out.length==0 with
    |true=>rw[beq_iff_eq]at hq⊢;omega
    |false=>rw[beq_eq_false_iff_ne]at hq⊢;omega
   generalize (out.length==0)=first at hbq HE2 hal
   go_wp2_with fail
   refine (CTA.out _ _).mono ?_
   rintro e wx ⟨rfl,rfl⟩
   go_wp2_with fail
   refine CIN.out.mono ?_
   rintro e w3 ⟨v',rfl,own3,hb3⟩
   have B3:Below w.heap.size w w3:=B2.out.trans hb3
   clear hb3
   go_wp2_with fail
   go_roundw
   case rel=>exact ⟨u',f',n+dq,pos+1,_,insAt pos (n+dq) out,rfl,by go_num,by go_num,rfl,by rw[insAt_length];omega,by omega,hbd,by rw[insAt_length];omega,hal,HE2.out,by rw[insAt_length];exact own3,B3⟩
   case measure=>rw[strLen_eq,strLen_eq];exact hul
  case atStart=>exact ⟨s,s.size,128,0,72,[],rfl,rfl,rfl,rfl,by simp;omega,Nat.le_refl _,H128.out,Nat.le_refl _,by omega,HR.out,HZ.out,HB0.out⟩
 by_cases hk1:k0=0
 ·subst hk1
  obtain ⟨R,hR⟩: ∃q,rawI 0 s.size ((sN s).map valB) 128 0 72 []=q:=⟨_,rfl⟩
  have HR:Hid (rawI 0 s.size ((sN s).map valB) 128 0 72 []=R):=hR
  have HA:Hid (∀(W:World) (e:Ending),readIAns w W R e→((∃k:Nat,0<k∧k<s.size∧splitD (sN s)=some ((sN s).take k,(sN s).drop (k+1))∧readIAns w W (rawI k s.size (((sN s).drop (k+1)).map valB) 128 0 72 ((sN s).take k)) e)∨
   ((splitD (sN s)=none∨splitD (sN s)=some ([],(sN s).drop 1))∧readIAns w W (rawI 0 s.size ((sN s).map valB) 128 0 72 []) e))):=fun W e h=> .inr ⟨.inr (by rw[hsp];rfl),by rw[hR];exact h⟩
  clear hR hsp hk0
  go_wp2_with fail
  refine wp_loop_rounds 1 ?_
  rw[rounds_succ]
  go_wp2_with fail
  go_loopw[4,7,8,9,10] (fun v a b c e wr=> ∃(u:ByteArray) (f n i bi:Nat) (out:List Nat),a=.string u∧b=.int .i64 n∧c=.int .i64 i∧e=.int .i64 bi∧out.length+u.size≤600∧u.size≤f∧n+u.size*66847300≤40108380128∧i≤out.length∧bi≤2400∧rawI 0 f ((sN u).map valB) n i bi out=R∧wr.ownsRow w.heap.size 3 1 v out.length (icN out)∧Below w.heap.size w wr)
   (fun _ a _ _ _ _=>strLen a)
  case round=>
   obtain ⟨u,f,n,i,bi,out,rfl,rfl,rfl,rfl,hou,hf,hn,hi,hbi,he,hown,hbel⟩:=hrel
   have HOW:Hid (wr.ownsRow w.heap.size 3 1 u4 out.length (icN out)):=hown
   have HBL:Hid (Below w.heap.size w wr):=hbel
   have hszr:=hbel.size
   have HE:Hid (rawI 0 f ((sN u).map valB) n i bi out=R):=he
   obtain ⟨ao,cp0,hu⟩:=own_slice hown
   clear hown hbel he
   subst hu
   by_cases hu0:u.size=0
   ·have hem:=empty_yes hu0
    have HRR:Hid (R=some out):=by
     show _=_
     rw[←HE.out,sN_zero hu0]
     cases f<;>rfl
    go_wp2_with fail
    go_ret2
    exact ⟨HA.out _ _ (.inr ⟨out,_,HRR.out,by omega,rfl,HOW.out⟩),HBL.out⟩
   have hup:0<u.size:=by omega
   have hem:=empty_no hup
   obtain ⟨f',rfl⟩: ∃j,f=j+1:=⟨f-1,by omega⟩
   have hne:(sN u).map valB≠[]:=by
    intro h
    have h1:((sN u).map valB).length=0:=by rw[h];rfl
    rw[List.length_map,sN_length]at h1
    omega
   have CUT:Hid (Calls Tryz.prog 160 #[.string u,.int .i64 (bi:Int)] wr fun e w'=>cutAns u bi e∧Below wr.heap.size wr w'):=implCut u bi wr (by omega) (by omega)
   have HNE:Hid ((sN u).map valB≠[]):=hne
   clear hu0 hne
   go_wp2_with fail
   refine CUT.out.mono ?_
   rintro e w2 ⟨hans,hb2⟩
   have B2:Hid (Below w.heap.size w w2):=HBL.out.trans (hb2.mono hszr)
   have O2:Hid (w2.ownsRow w.heap.size 3 1 (.slice ao out.length cp0) out.length (icN out)):=own_below HOW.out hb2
   have hsz2:w.heap.size≤w2.heap.size:=Nat.le_trans hszr hb2.size
   clear hb2
   rcases hans with ⟨hno,rfl⟩|⟨m,u',hyes,hm,hul,rfl⟩
   ·have HRR:Hid (R=none):=by
     show _=_
     rw[←HE.out]
     exact rawI_none HNE.out hno
    clear hno
    go_wp2_with fail
    go_ret2
    exact ⟨HA.out _ _ (.inl ⟨HRR.out,rfl⟩),B2.out⟩
   have HST:=rawI_some (basic:=0) (f:=f') (n:=n) (i:=i) (out:=out) HNE.out hyes
   have hdq1:(i+m)/(out.length+1)≤i+m:=Nat.div_le_self _ _
   have hps1:(i+m)%(out.length+1)<out.length+1:=Nat.mod_lt _ (by omega)
   have hQ:((i:Int)+(m:Int))/((out.length:Int)+1)=(((i+m)/(out.length+1):Nat):Int):=by norm_cast
   have hM:((i:Int)+(m:Int))%((out.length:Int)+1)=(((i+m)%(out.length+1):Nat):Int):=by norm_cast
   have HE2:Hid (rawI 0 f' ((sN u').map valB) (n+(i+m)/(out.length+1)) ((i+m)%(out.length+1)+1) (adaptN m (out.length+1) (out.length==0)) (insAt ((i+m)%(out.length+1)) (n+(i+m)/(out.length+1)) out)=R):=by
    show _=_
    rw[←HE.out]
    exact HST.symm
   clear HST hyes
   generalize (i+m)/(out.length+1)=dq at hQ HE2 hdq1
   generalize (i+m)%(out.length+1)=pos at hM HE2 hps1
   have hnz: ¬(out.length:Int)+1=0:=by omega
   have hnn:(n:Int)+(dq:Int)≤50000000000:=by omega
   have hmI:(m:Int)≤66846660:=by omega
   have hoI:(out.length:Int)≤600:=by omega
   have hiI:(i:Int)≤600:=by omega
   have hbd:n+dq+u'.size*66847300≤40108380128:=by omega
   have CTA:Hid (∀(first:Bool) (W:World),CS 141 #[.int .i64 (m:Int),.int .i64 ((out.length:Int)+1),.bool first] W (.int .i64 (adaptN m (out.length+1) first:Int))):=fun first W=>by
    have h:=implAdapt_in m (out.length+1) first W (by omega) (by omega) (by omega)
    rw[show ((out.length+1:Nat):Int)=(out.length:Int)+1 by omega]at h
    exact h
   have CIN:Hid (Calls Tryz.prog 161 #[.slice ao out.length cp0,.int .i64 (pos:Int),.slice (some ⟨w2.heap.size,0,none⟩) 1 1] (w2.alloc (.cells #[.int .i64 ((n:Int)+(dq:Int))] 3)) fun e w'=>
     ∃v',e=.returned v'∧w'.ownsRow w.heap.size 3 1 v' (out.length+1) (icN (insAt pos (n+dq) out))∧Below w.heap.size w2 w'):=by
    have h:=implInsert out pos (n+dq) (.slice ao out.length cp0) w.heap.size w2 O2.out hsz2 (by omega) (by omega)
    rw[show ((n+dq:Nat):Int)=(n:Int)+(dq:Int) by omega]at h
    exact h
   have hal:=adaptN_le m (out.length+1) (out.length==0)
   have hbq:((out.length:Int)==0)=(out.length==0):=by
    cases hq:out.length==0 with
    |true=>rw[beq_iff_eq]at hq⊢;omega
    |false=>rw[beq_eq_false_iff_ne]at hq⊢;omega
   generalize (out.length==0)=first at hbq HE2 hal
   go_wp2_with fail
   refine (CTA.out _ _).mono ?_
   rintro e wx ⟨rfl,rfl⟩
   go_wp2_with fail
   refine CIN.out.mono ?_
   rintro e w3 ⟨v',rfl,own3,hb3⟩
   have B3:Below w.heap.size w w3:=B2.out.trans hb3
   clear hb3
   go_wp2_with fail
   go_roundw
   case rel=>exact ⟨u',f',n+dq,pos+1,_,insAt pos (n+dq) out,rfl,by go_num,by go_num,rfl,by rw[insAt_length];omega,by omega,hbd,by rw[insAt_length];omega,hal,HE2.out,by rw[insAt_length];exact own3,B3⟩
   case measure=>rw[strLen_eq,strLen_eq];exact hul
  case atStart=>exact ⟨s,s.size,128,0,72,[],rfl,rfl,rfl,rfl,by simp;omega,Nat.le_refl _,H128.out,Nat.le_refl _,by omega,HR.out,HZ.out,HB0.out⟩
 have hk2:0<(k0:Int):=by omega
 have hk4:0<k0:=by omega
 have hk3: ¬(k0:Int)<0:=by omega
 have hxs:(s.extract k0 s.size).size=s.size-k0:=by simp
 have hx2:(s.extract (k0+1) s.size).size=s.size-(k0+1):=by simp
 have HX:Hid (sN (s.extract (k0+1) s.size)=(sN s).drop (k0+1)):=by
  show _=_
  have hl:(sN s).length=s.size:=sN_length s
  simp only[sN,ByteArray.data_extract,Array.toList_extract,List.map_drop,List.map_take,List.extract_eq_take_drop]at hl⊢
  rw[List.take_of_length_le (by simp at hl⊢)]
 obtain ⟨R,hR⟩: ∃q,rawI k0 s.size (((sN s).drop (k0+1)).map valB) 128 0 72 ((sN s).take k0)=q:=⟨_,rfl⟩
 have HR:Hid (rawI k0 s.size ((sN (s.extract (k0+1) s.size)).map valB) 128 0 72 ((sN s).take k0)=R):=by
  show _=_
  rw[HX.out]
  exact hR
 have HA:Hid (∀(W:World) (e:Ending),readIAns w W R e→((∃k:Nat,0<k∧k<s.size∧splitD (sN s)=some ((sN s).take k,(sN s).drop (k+1))∧readIAns w W (rawI k s.size (((sN s).drop (k+1)).map valB) 128 0 72 ((sN s).take k)) e)∨
  ((splitD (sN s)=none∨splitD (sN s)=some ([],(sN s).drop 1))∧readIAns w W (rawI 0 s.size ((sN s).map valB) 128 0 72 []) e))):=fun W e h=> .inl ⟨k0,by omega,hk0,hsp,by rw[hR];exact h⟩
 clear hR hsp HX
 have hmx:max (k0:Int) 0=(k0:Int):=by omega
 go_wp2_with fail
 go_loopw[4,19] (fun v i wr=> ∃k:Nat,k≤k0∧i=.int .i64 k∧wr.ownsRow w.heap.size 3 1 v k (icN ((sN s).take k))∧Below w.heap.size w wr) (fun _ i _=>k0-(intOf i).toNat)
 case atStart=>exact ⟨0,Nat.zero_le _,rfl,HZ.out,HB0.out⟩
 obtain ⟨k,hk,rfl,hown,hbel⟩:=hrel
 have hsz:=hbel.size
 by_cases hlt:k<k0
 ·have hks:k<s.size:=by omega
  obtain ⟨d,hd⟩: ∃d:Nat,s[k].toNat=d:=⟨_,rfl⟩
  have hd1:(d:Int)≤255:=by have:=s[k].toNat_lt;omega
  have HS:Hid ((sN s).take (k+1)=(sN s).take k++[d]):=by
   show _=_
   rw[←hd,List.take_succ_eq_append_getElem (by rw[sN_length];exact hks)]
   congr 2
   simp[sN]
   rfl
  go_wp2_with (at_builtin;refine wpList_append_new _ rfl _ _ 109 rfl w.heap.size 3 (.int .i64 0) 8 Tryz.underlying109 Tryz.infoI rfl _ _ _ rfl hown #[.int .i64 (d:Int)] 1 rfl rfl (by intro u hu;simp at hu;subst hu;rfl) (by omega) (by unfold maxLen;omega) (by omega) ?_)
  intro v' w1 hown' hb1
  have R1:w1.ownsRow w.heap.size 3 1 v' (k+1) (icN ((sN s).take (k+1))):=by rw[HS.out,icN_snoc];exact hown'
  have B1:Below w.heap.size w w1:=hbel.trans hb1
  clear hown' hb1 hown hbel
  go_wp2_with fail
  go_roundw
  case rel=>exact ⟨k+1,by omega,by go_num,R1,B1⟩
  case measure=>simp[intOf];omega
 obtain rfl:k=k0:=by omega
 have hlen:((sN s).take k).length=k:=by rw[List.length_take,sN_length];omega
 have HO1:Hid (wr.ownsRow w.heap.size 3 1 u4 ((sN s).take k).length (icN ((sN s).take k))):=by rw[hlen];exact hown
 have HB1:Hid (Below w.heap.size w wr):=hbel
 have HXX:Hid (Value.string ((s.extract k s.size).extract 1 (s.size-k))=Value.string (s.extract (k+1) s.size)):=by
  show _=_
  congr 1
  apply ByteArray.ext
  simp only[ByteArray.data_extract,Array.extract_extract]
  congr 1
  omega
 have HS1:Hid (((sN s).take k).length+(s.extract (k+1) s.size).size≤600):=by show _≤_;omega
 have HS2:Hid (128+(s.extract (k+1) s.size).size*66847300≤40108380128):=by show _≤_;omega
 have HS3:Hid ((s.extract (k+1) s.size).size≤s.size):=by show _≤_;omega
 obtain ⟨ao0,cp1,hu⟩:=own_slice hown
 subst hu
 clear hown hbel hlt hlen
 go_wp2_with fail
 go_loopw[4,7,8,9,10] (fun v a b c e wr=> ∃(u:ByteArray) (f n i bi:Nat) (out:List Nat),a=.string u∧b=.int .i64 n∧c=.int .i64 i∧e=.int .i64 bi∧out.length+u.size≤600∧u.size≤f∧n+u.size*66847300≤40108380128∧i≤out.length∧bi≤2400∧rawI k f ((sN u).map valB) n i bi out=R∧wr.ownsRow w.heap.size 3 1 v out.length (icN out)∧Below w.heap.size w wr)
  (fun _ a _ _ _ _=>strLen a)
 case round=>
  obtain ⟨u,f,n,i,bi,out,rfl,rfl,rfl,rfl,hou,hf,hn,hi,hbi,he,hown,hbel⟩:=hrel
  have HOW:Hid (wr.ownsRow w.heap.size 3 1 u4 out.length (icN out)):=hown
  have HBL:Hid (Below w.heap.size w wr):=hbel
  have hszr:=hbel.size
  have HE:Hid (rawI k f ((sN u).map valB) n i bi out=R):=he
  obtain ⟨ao,cp0,hu⟩:=own_slice hown
  clear hown hbel he
  subst hu
  by_cases hu0:u.size=0
  ·have hem:=empty_yes hu0
   have HRR:Hid (R=some out):=by
    show _=_
    rw[←HE.out,sN_zero hu0]
    cases f<;>rfl
   go_wp2_with fail
   go_ret2
   exact ⟨HA.out _ _ (.inr ⟨out,_,HRR.out,by omega,rfl,HOW.out⟩),HBL.out⟩
  have hup:0<u.size:=by omega
  have hem:=empty_no hup
  obtain ⟨f',rfl⟩: ∃j,f=j+1:=⟨f-1,by omega⟩
  have hne:(sN u).map valB≠[]:=by
   intro h
   have h1:((sN u).map valB).length=0:=by rw[h];rfl
   rw[List.length_map,sN_length]at h1
   omega
  have CUT:Hid (Calls Tryz.prog 160 #[.string u,.int .i64 (bi:Int)] wr fun e w'=>cutAns u bi e∧Below wr.heap.size wr w'):=implCut u bi wr (by omega) (by omega)
  have HNE:Hid ((sN u).map valB≠[]):=hne
  clear hu0 hne
  go_wp2_with fail
  refine CUT.out.mono ?_
  rintro e w2 ⟨hans,hb2⟩
  have B2:Hid (Below w.heap.size w w2):=HBL.out.trans (hb2.mono hszr)
  have O2:Hid (w2.ownsRow w.heap.size 3 1 (.slice ao out.length cp0) out.length (icN out)):=own_below HOW.out hb2
  have hsz2:w.heap.size≤w2.heap.size:=Nat.le_trans hszr hb2.size
  clear hb2
  rcases hans with ⟨hno,rfl⟩|⟨m,u',hyes,hm,hul,rfl⟩
  ·have HRR:Hid (R=none):=by
    show _=_
    rw[←HE.out]
    exact rawI_none HNE.out hno
   clear hno
   go_wp2_with fail
   go_ret2
   exact ⟨HA.out _ _ (.inl ⟨HRR.out,rfl⟩),B2.out⟩
  have HST:=rawI_some (basic:=k) (f:=f') (n:=n) (i:=i) (out:=out) HNE.out hyes
  have hdq1:(i+m)/(out.length+1)≤i+m:=Nat.div_le_self _ _
  have hps1:(i+m)%(out.length+1)<out.length+1:=Nat.mod_lt _ (by omega)
  have hQ:((i:Int)+(m:Int))/((out.length:Int)+1)=(((i+m)/(out.length+1):Nat):Int):=by norm_cast
  have hM:((i:Int)+(m:Int))%((out.length:Int)+1)=(((i+m)%(out.length+1):Nat):Int):=by norm_cast
  have HE2:Hid (rawI k f' ((sN u').map valB) (n+(i+m)/(out.length+1)) ((i+m)%(out.length+1)+1) (adaptN m (out.length+1) (out.length==k)) (insAt ((i+m)%(out.length+1)) (n+(i+m)/(out.length+1)) out)=R):=by
   show _=_
   rw[←HE.out]
   exact HST.symm
  clear HST hyes
  generalize (i+m)/(out.length+1)=dq at hQ HE2 hdq1
  generalize (i+m)%(out.length+1)=pos at hM HE2 hps1
  have hnz: ¬(out.length:Int)+1=0:=by omega
  have hnn:(n:Int)+(dq:Int)≤50000000000:=by omega
  have hmI:(m:Int)≤66846660:=by omega
  have hoI:(out.length:Int)≤600:=by omega
  have hiI:(i:Int)≤600:=by omega
  have hbd:n+dq+u'.size*66847300≤40108380128:=by omega
  have CTA:Hid (∀(first:Bool) (W:World),CS 141 #[.int .i64 (m:Int),.int .i64 ((out.length:Int)+1),.bool first] W (.int .i64 (adaptN m (out.length+1) first:Int))):=fun first W=>by
   have h:=implAdapt_in m (out.length+1) first W (by omega) (by omega) (by omega)
   rw[show ((out.length+1:Nat):Int)=(out.length:Int)+1 by omega]at h
   exact h
  have CIN:Hid (Calls Tryz.prog 161 #[.slice ao out.length cp0,.int .i64 (pos:Int),.slice (some ⟨w2.heap.size,0,none⟩) 1 1] (w2.alloc (.cells #[.int .i64 ((n:Int)+(dq:Int))] 3)) fun e w'=>
    ∃v',e=.returned v'∧w'.ownsRow w.heap.size 3 1 v' (out.length+1) (icN (insAt pos (n+dq) out))∧Below w.heap.size w2 w'):=by
   have h:=implInsert out pos (n+dq) (.slice ao out.length cp0) w.heap.size w2 O2.out hsz2 (by omega) (by omega)
   rw[show ((n+dq:Nat):Int)=(n:Int)+(dq:Int) by omega]at h
   exact h
  have hal:=adaptN_le m (out.length+1) (out.length==k)
  have hbq:((out.length:Int)==(↑k))=(out.length==k):=by
   cases hq:out.length==k with
   |true=>rw[beq_iff_eq]at hq⊢;omega
   |false=>rw[beq_eq_false_iff_ne]at hq⊢;omega
  generalize (out.length==k)=first at hbq HE2 hal
  go_wp2_with fail
  refine (CTA.out _ _).mono ?_
  rintro e wx ⟨rfl,rfl⟩
  go_wp2_with fail
  refine CIN.out.mono ?_
  rintro e w3 ⟨v',rfl,own3,hb3⟩
  have B3:Below w.heap.size w w3:=B2.out.trans hb3
  clear hb3
  go_wp2_with fail
  go_roundw
  case rel=>exact ⟨u',f',n+dq,pos+1,_,insAt pos (n+dq) out,rfl,by go_num,by go_num,rfl,by rw[insAt_length];omega,by omega,hbd,by rw[insAt_length];omega,hal,HE2.out,by rw[insAt_length];exact own3,B3⟩
  case measure=>rw[strLen_eq,strLen_eq];exact hul
 case atStart=>exact ⟨s.extract (k+1) s.size,s.size,128,0,72,(sN s).take k,HXX.out,rfl,rfl,rfl,HS1.out,HS3.out,HS2.out,by omega,by omega,HR.out,HO1.out,HB1.out⟩
theorem implEncAll(l:List Nat)(v:Value)(B:Nat)(w:World)(hl:l.length≤1048576)(hown:w.ownsRow B 3 1 v l.length (icN l)):
  Calls Tryz.prog 121 #[v] w fun e w'=>e=.returned (.tuple #[.string ⟨(b8 (if encOk l=true then encC l else [])).toArray⟩,.bool (encOk l)])∧Below w.heap.size w w':=by
 rcases own_shape hown with ⟨h0,_,ao,cap,rfl⟩|⟨_,g,cap,rfl⟩
 ·have hl0:l=[]:=List.eq_nil_of_length_eq_zero h0
  subst hl0
  refine (implPunyEncode_nil ao cap w).mono ?_
  rintro e w' ⟨rfl,hb⟩
  exact ⟨rfl,hb⟩
 by_cases hok:encOk l=true
 ·rw[if_pos hok,hok]
  exact implPunyEncode_yes l l.length g cap B w hok rfl hown
 rw[if_neg hok]
 have hf:encOk l=false:=by simpa using hok
 rw[hf]
 exact implPunyEncode_no (l.map fun (c:Nat)=>(c:Int)) l.length g cap B w (fun h=>hok (encOk_Z.2 h)) (by simp) hl hown
theorem dec_raw{s l:List Nat}(h:decC s=some l):rawC s=some l:=by
 unfold decC at h
 split at h
 ·next l' hr=>
  split at h
  ·cases h;exact hr
  cases h
 cases h
theorem split_nil:splitD []=none:=rfl
theorem dec_dash{s l:List Nat}(h:splitD s=some ([],s.drop 1))(hd:decC s=some l):False:=by
 obtain ⟨_,he⟩:=(dec_iff s l).1 hd
 obtain ⟨p1,p2⟩:=enc_parts l
 rw[he]at p1 p2
 have h1:headD s=[]:=by unfold headD;rw[h]
 have h2:tailD s=s.drop 1:=by unfold tailD;rw[h]
 rw[h1]at p1
 have h3:s=(encV l).map digB:=by
  rw[←he]
  unfold encC
  rw[←p1]
  rfl
 rw[←h3,h2]at p2
 have h4:=congrArg List.length p2
 rw[List.length_drop]at h4
 have h5:s=[]:=List.eq_nil_of_length_eq_zero (by omega)
 rw[h5,split_nil]at h
 cases h
theorem implPunyDecode(s:ByteArray)(w:World)(hs600:(s.size:Int)≤600):
  Calls Tryz.prog 124 #[.string s] w fun e w'=>decAns w w' (decC (sN s)) e∧Below w.heap.size w w':=by
 have hng: ¬600<(s.size:Int):=by omega
 go_enter Tryz.func124,Tryz.ntmps124
 go_wp2_with fail
 refine (implRead s w hs600).mono ?_
 rintro e w2 ⟨hans,hb⟩
 obtain ⟨R,hR,HD⟩: ∃R:Option (List Nat),readIAns w w2 R e∧ ∀l,decC (sN s)=some l→R=some l:=by
  rcases hans with ⟨k,hk,hks,hsp,hr⟩|⟨hsp|hsp,hr⟩
  ·refine ⟨_,hr,fun l hl=> ?_⟩
   have h1:=dec_raw hl
   unfold rawC headD tailD at h1
   rw[hsp,sN_length]at h1
   simp only at h1
   rw[List.length_take,sN_length,Nat.min_eq_left (by omega)]at h1
   exact rawI_of k _ _ _ _ _ _ l (by decide) h1
  ·refine ⟨_,hr,fun l hl=> ?_⟩
   have h1:=dec_raw hl
   unfold rawC headD tailD at h1
   rw[hsp,sN_length]at h1
   exact rawI_of 0 _ _ _ _ _ _ l (by decide) h1
  exact ⟨_,hr,fun l hl=>(dec_dash hsp hl).elim⟩
 have HDD:Hid (∀l,decC (sN s)=some l→R=some l):=HD
 have HB:Hid (Below w.heap.size w w2):=hb
 have hsz:=hb.size
 clear hans HD hb
 rcases hR with ⟨hno,rfl⟩|⟨l,v,hyes,hl6,rfl,hown⟩
 ·have HN:Hid (decC (sN s)=none):=by
   show _=_
   cases hd:decC (sN s)with
   |none=>rfl
   |some l=>have:=HDD.out l hd;rw[hno]at this;cases this
  have HZ:Hid ((w2.alloc (.cells #[] 3)).ownsRow w.heap.size 3 1 (.slice (some ⟨w2.heap.size,0,none⟩) 0 0) 0 []):=World.ownsRow_lit w2 #[] 0 hsz (by decide) rfl
  clear hno
  go_wp2_with fail
  go_ret2
  exact ⟨decAns_none HN.out HZ.out rfl,HB.out.alloc hsz _⟩
 have CE:Hid (CB 121 #[v] w2 (.tuple #[.string ⟨(b8 (if encOk l=true then encC l else [])).toArray⟩,.bool (encOk l)])):=implEncAll l v w.heap.size w2 (by omega) hown
 have HOW:Hid (w2.ownsRow w.heap.size 3 1 v l.length (icN l)):=hown
 have HAL:Hid (∀l',decC (sN s)=some l'→l'=l):=fun l' h=>by
  have:=HDD.out l' h
  rw[hyes]at this
  injection this with this
  exact this.symm
 clear hyes HDD
 obtain ⟨ao,cp,hu⟩:=own_slice hown
 subst hu
 clear hown
 by_cases hok:encOk l=true
 ·rw[if_pos hok,hok]at CE
  by_cases heq:encC l=sN s
  ·have HY:Hid (decC (sN s)=some l):=(dec_iff _ _).2 ⟨hok,heq⟩
   have hst:=str_eq ((sN_eq s (encC l) (fun c hc=>by have:=enc_ascii c hc;omega)).2 heq)
   generalize (⟨(b8 (encC l)).toArray⟩:ByteArray)=t at CE hst
   clear hok heq
   go_wp2_with fail
   refine CE.out.mono ?_
   rintro e w3 ⟨rfl,hb3⟩
   have HO3:Hid (w3.ownsRow w.heap.size 3 1 (.slice ao l.length cp) l.length (icN l)):=own_below HOW.out hb3
   have HB3:Hid (Below w.heap.size w w3):=HB.out.trans (hb3.mono hsz)
   clear hb3
   go_wp2_with fail
   go_ret2
   exact ⟨decAns_some HY.out HO3.out rfl,HB3.out⟩
  have HN:Hid (decC (sN s)=none):=by
   show _=_
   cases hd:decC (sN s)with
   |none=>rfl
   |some l'=>
    have h1:=HAL.out l' hd
    rw[h1]at hd
    exact absurd ((dec_iff _ _).1 hd).2 heq
  have hst:=str_ne (fun h=>heq ((sN_eq s (encC l) (fun c hc=>by have:=enc_ascii c hc;omega)).1 h))
  generalize (⟨(b8 (encC l)).toArray⟩:ByteArray)=t at CE hst
  clear hok heq
  go_wp2_with fail
  refine CE.out.mono ?_
  rintro e w3 ⟨rfl,hb3⟩
  have hsz3:w.heap.size≤w3.heap.size:=Nat.le_trans hsz hb3.size
  have HB3:Hid (Below w.heap.size w w3):=HB.out.trans (hb3.mono hsz)
  have HZ:Hid ((w3.alloc (.cells #[] 3)).ownsRow w.heap.size 3 1 (.slice (some ⟨w3.heap.size,0,none⟩) 0 0) 0 []):=World.ownsRow_lit w3 #[] 0 hsz3 (by decide) rfl
  clear hb3
  go_wp2_with fail
  go_ret2
  exact ⟨decAns_none HN.out HZ.out rfl,HB3.out.alloc hsz3 _⟩
 have HN:Hid (decC (sN s)=none):=by
  show _=_
  cases hd:decC (sN s)with
  |none=>rfl
  |some l'=>
   have h1:=HAL.out l' hd
   rw[h1]at hd
   exact absurd ((dec_iff _ _).1 hd).1 hok
 rw[if_neg hok,show encOk l=false by simpa using hok]at CE
 generalize (⟨(b8 []).toArray⟩:ByteArray)=t at CE
 clear hok
 go_wp2_with fail
 refine CE.out.mono ?_
 rintro e w3 ⟨rfl,hb3⟩
 have hsz3:w.heap.size≤w3.heap.size:=Nat.le_trans hsz hb3.size
 have HB3:Hid (Below w.heap.size w w3):=HB.out.trans (hb3.mono hsz)
 have HZ:Hid ((w3.alloc (.cells #[] 3)).ownsRow w.heap.size 3 1 (.slice (some ⟨w3.heap.size,0,none⟩) 0 0) 0 []):=World.ownsRow_lit w3 #[] 0 hsz3 (by decide) rfl
 clear hb3
 go_wp2_with fail
 go_ret2
 exact ⟨decAns_none HN.out HZ.out rfl,HB3.out.alloc hsz3 _⟩
theorem implPunyDecode_big(s:ByteArray)(w:World)(hs:600<(s.size:Int)):
  Calls Tryz.prog 124 #[.string s] w fun e w'=>decAns w w' none e∧Below w.heap.size w w':=by
 go_enter Tryz.func124,Tryz.ntmps124
 go_wp2
 go_ret2
 exact ⟨decAns_none rfl (World.ownsRow_lit w #[] 0 (Nat.le_refl _) (by decide) rfl) rfl,(Below.refl _ _).alloc (Nat.le_refl _) _⟩
end Go.Proofs.YtijliddchoehhaaGreatDoor
