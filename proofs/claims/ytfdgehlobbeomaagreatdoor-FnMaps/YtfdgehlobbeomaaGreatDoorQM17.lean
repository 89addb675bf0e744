/- UnImpl. -/
import Derived.Test.YtfdgehlobbeomaaGreatDoorQM16
import Derived.Test.YtfdgehlobbeomaaGreatDoorQM11
set_option maxHeartbeats 4000000
set_option maxRecDepth 100000
namespace Go.Proofs.YtfdgehlobbeomaaGreatDoor
open Go.RowKit
set_option linter.unusedVariables false
def hashK(n:List UInt8):Nat:=if Lib.hasPrefix n [35,120]=true then (numL 16 6 (n.drop 2)).getD 0 else if Lib.hasPrefix n [35]=true then (numL 10 7 (n.drop 1)).getD 0 else 0
theorem hash_name(n:List UInt8):(match hashN n with
  |some r=>if 0<r∧r≤1114111∧(r<55296∨57343<r)then some r else none
  |none=>none)=if 0<hashK n∧hashK n≤1114111∧(hashK n<55296∨57343<hashK n)then some (hashK n)else none:=by
 have key: ∀o:Option Nat,(match o with
  |some r=>if 0<r∧r≤1114111∧(r<55296∨57343<r)then some r else none
  |none=>none)=if 0<o.getD 0∧o.getD 0≤1114111∧(o.getD 0<55296∨57343<o.getD 0)then some (o.getD 0)else none:=fun o=>by
  cases o with
  |none=>rw[if_neg (by simp)]
  |some r=>rfl
 suffices h:(hashN n).getD 0=hashK n by rw[key (hashN n),h]
 match n with
 |[]=>rfl
 |[c]=>
  by_cases hc:c=35
  ·subst hc;rfl
  have h1:hashN [c]=none:=by unfold hashN;split<;>simp_all
  have h2:Lib.hasPrefix [c] [35,120]=false:=by simp[Lib.hasPrefix,List.isPrefixOf]
  have h3:Lib.hasPrefix [c] [35]=false:=by simp[Lib.hasPrefix,List.isPrefixOf];exact fun e=>hc e.symm
  unfold hashK
  rw[h1,h2,h3]
  rfl
 |[c,d]=>
  by_cases hc:c=35
  ·subst hc
   by_cases hd:d=120
   ·subst hd;rfl
   have h2:Lib.hasPrefix [35,d] [35,120]=false:=by simp[Lib.hasPrefix,List.isPrefixOf];exact fun e=>hd e.symm
   have h1:hashN [35,d]=numL 10 7 [d]:=by unfold hashN;split<;>simp_all
   unfold hashK
   rw[h1,h2]
   rfl
  have h1:hashN [c,d]=none:=by unfold hashN;split<;>simp_all
  have h2:Lib.hasPrefix [c,d] [35,120]=false:=by simp[Lib.hasPrefix,List.isPrefixOf];exact fun e=>absurd e.symm hc
  have h3:Lib.hasPrefix [c,d] [35]=false:=by simp[Lib.hasPrefix,List.isPrefixOf];exact fun e=>hc e.symm
  unfold hashK
  rw[h1,h2,h3]
  rfl
 |c::d::e::r=>
  by_cases hc:c=35
  ·subst hc
   by_cases hd:d=120
   ·subst hd;rfl
   have h2:Lib.hasPrefix (35::d::e::r) [35,120]=false:=by simp[Lib.hasPrefix,List.isPrefixOf];exact fun e=>hd e.symm
   have h1:hashN (35::d::e::r)=numL 10 7 (d::e::r):=by unfold hashN;split<;>simp_all
   unfold hashK
   rw[h1,h2]
   rfl
  have h1:hashN (c::d::e::r)=none:=by unfold hashN;split<;>simp_all
  have h2:Lib.hasPrefix (c::d::e::r) [35,120]=false:=by simp[Lib.hasPrefix,List.isPrefixOf];exact fun e=>absurd e.symm hc
  have h3:Lib.hasPrefix (c::d::e::r) [35]=false:=by simp[Lib.hasPrefix,List.isPrefixOf];exact fun e=>hc e.symm
  unfold hashK
  rw[h1,h2,h3]
  rfl
theorem name_hashK{n:List UInt8}(h: ∀k,k<5→escN k≠n):nameR n=if 0<hashK n∧hashK n≤1114111∧(hashK n<55296∨57343<hashK n)then some (hashK n)else none:=by
 unfold nameR
 rw[if_neg (fun e=>h 0 (by decide) e.symm),if_neg (fun e=>h 1 (by decide) e.symm),if_neg (fun e=>h 2 (by decide) e.symm),if_neg (fun e=>h 3 (by decide) e.symm),if_neg (fun e=>h 4 (by decide) e.symm)]
 exact hash_name n
theorem name_tab(k:Nat)(h:k<5):nameR (escN k)=some (escM k)∧Lib.encodeRune ((escM k:Nat):Int)=[UInt8.ofNat (escM k)]:=by
 match k,h with
 |0,_=>exact ⟨rfl,rfl⟩
 |1,_=>exact ⟨rfl,rfl⟩
 |2,_=>exact ⟨rfl,rfl⟩
 |3,_=>exact ⟨rfl,rfl⟩
 |4,_=>exact ⟨rfl,rfl⟩
theorem un_free: ∀{p:List UInt8},38∉p→unF p=some p
 |[],_=>rfl
 |c::r,h=>by
  have hc:c≠38:=fun e=>h (by rw[e];exact List.mem_cons_self)
  rw[unF_byte hc,un_free (fun e=>h (List.mem_cons_of_mem _ e))]
  rfl
theorem un_ahead: ∀{p:List UInt8} (r:List UInt8),38∉p→unF (p++38::r)=(unF (38::r)).map fun t=>p++t
 |[],r,_=>by
  show unF (38::r)=_
  cases unF (38::r)<;>rfl
 |c::p,r,h=>by
  have hc:c≠38:=fun e=>h (by rw[e];exact List.mem_cons_self)
  rw[List.cons_append,unF_byte hc,un_ahead r (fun e=>h (List.mem_cons_of_mem _ e))]
  cases unF (38::r)<;>rfl
theorem un_cut(l:List UInt8):unF l=if l.contains 38=true then (unF (38::behB 38 l)).map (fun t=>upB 38 l++t)else some (upB 38 l):=by
 obtain ⟨h1,h2,h3⟩:=up_beh 38 l
 cases hc:l.contains 38 with
 |true=>
  rw[if_pos rfl]
  conv=>lhs;rw[h1 hc]
  exact un_ahead _ h3
 |false=>
  rw[if_neg (by decide)]
  obtain ⟨e1,_⟩:=h2 hc
  conv=>lhs;rw[←e1]
  exact un_free h3
theorem hidU{p:Prop}(h:p):Hid p:=h
theorem num_get(r:Option Nat): ∃b,numA r=.tuple #[.int .i64 ((r.getD 0:Nat):Int),.bool b]:=by
 cases r with
 |none=>exact ⟨false,rfl⟩
 |some n=>exact ⟨true,rfl⟩
theorem implRuneNumbered(n:ByteArray)(w:World):
  Calls Tryz.prog 133 #[.string n] w fun e w'=>e=.returned (.int .i64 ((hashK n.data.toList:Nat):Int))∧w=w':=by
 have CP:Hid (∀W,CS 97 #[.string n,.string ⟨#[35,120]⟩] W (.tuple #[.string ⟨(Lib.trimPrefix n.data.toList [35,120]).toArray⟩,.bool (Lib.hasPrefix n.data.toList [35,120])])):=fun W=>(Tryz.strings_CutPrefix n ⟨#[35,120]⟩ W).mono fun e w' h=>⟨h.1,h.2.symm⟩
 have CQ:Hid (∀W,CS 97 #[.string n,.string ⟨#[35]⟩] W (.tuple #[.string ⟨(Lib.trimPrefix n.data.toList [35]).toArray⟩,.bool (Lib.hasPrefix n.data.toList [35])])):=fun W=>(Tryz.strings_CutPrefix n ⟨#[35]⟩ W).mono fun e w' h=>⟨h.1,h.2.symm⟩
 cases h1:Lib.hasPrefix n.data.toList [35,120]with
 |true=>
  obtain ⟨x,hx⟩: ∃x:ByteArray,(⟨(n.data.toList.drop 2).toArray⟩:ByteArray)=x:=⟨_,rfl⟩
  have hk:hashK n.data.toList=(numL 16 6 x.data.toList).getD 0:=by unfold hashK;rw[if_pos h1,←hx]
  rw[show Lib.trimPrefix n.data.toList [35,120]=n.data.toList.drop 2 by unfold Lib.trimPrefix;rw[if_pos h1];rfl,hx,h1]at CP
  obtain ⟨b,hb⟩:=num_get (numL 16 6 x.data.toList)
  rw[←hk]at hb
  have CD:Hid (∀W,CS 28 #[.string x,.int .i64 16,.int .i64 6] W (.tuple #[.int .i64 ((hashK n.data.toList:Nat):Int),.bool b])):=fun W=>by rw[←hb];exact implDigits x 16 6 W (by omega) (by omega)
  generalize hashK n.data.toList=kk at*
  clear hb hk hx h1 CQ
  go_enter Tryz.func133,Tryz.ntmps133
  go_wp2_with fail
  refine (CP.out _).mono ?_
  rintro e w' ⟨rfl,rfl⟩
  go_wp2_with fail
  refine (CD.out _).mono ?_
  rintro e w' ⟨rfl,rfl⟩
  go_wp2_with fail
  go_ret
  exact ⟨rfl,rfl⟩
 |false=>
  obtain ⟨y,hy⟩: ∃y:ByteArray,(⟨(Lib.trimPrefix n.data.toList [35,120]).toArray⟩:ByteArray)=y:=⟨_,rfl⟩
  rw[hy,h1]at CP
  cases h2:Lib.hasPrefix n.data.toList [35]with
  |true=>
   obtain ⟨x,hx⟩: ∃x:ByteArray,(⟨(n.data.toList.drop 1).toArray⟩:ByteArray)=x:=⟨_,rfl⟩
   have hk:hashK n.data.toList=(numL 10 7 x.data.toList).getD 0:=by unfold hashK;rw[if_neg (by rw[h1];decide),if_pos h2,←hx]
   rw[show Lib.trimPrefix n.data.toList [35]=n.data.toList.drop 1 by unfold Lib.trimPrefix;rw[if_pos h2];rfl,hx,h2]at CQ
   obtain ⟨b,hb⟩:=num_get (numL 10 7 x.data.toList)
   rw[←hk]at hb
   have CD:Hid (∀W,CS 28 #[.string x,.int .i64 10,.int .i64 7] W (.tuple #[.int .i64 ((hashK n.data.toList:Nat):Int),.bool b])):=fun W=>by rw[←hb];exact implDigits x 10 7 W (by omega) (by omega)
   generalize hashK n.data.toList=kk at*
   clear hb hk hx h1 h2 hy
   go_enter Tryz.func133,Tryz.ntmps133
   go_wp2_with fail
   refine (CP.out _).mono ?_
   rintro e w' ⟨rfl,rfl⟩
   go_wp2_with fail
   refine (CQ.out _).mono ?_
   rintro e w' ⟨rfl,rfl⟩
   go_wp2_with fail
   refine (CD.out _).mono ?_
   rintro e w' ⟨rfl,rfl⟩
   go_wp2_with fail
   go_ret
   exact ⟨rfl,rfl⟩
  |false=>
   have hk:hashK n.data.toList=0:=by unfold hashK;rw[if_neg (by rw[h1];decide),if_neg (by rw[h2];decide)]
   obtain ⟨z,hz⟩: ∃y:ByteArray,(⟨(Lib.trimPrefix n.data.toList [35]).toArray⟩:ByteArray)=y:=⟨_,rfl⟩
   rw[hz,h2]at CQ
   rw[hk]
   clear hk hz hy h1 h2
   go_enter Tryz.func133,Tryz.ntmps133
   go_wp2_with fail
   refine (CP.out _).mono ?_
   rintro e w' ⟨rfl,rfl⟩
   go_wp2_with fail
   refine (CQ.out _).mono ?_
   rintro e w' ⟨rfl,rfl⟩
   go_wp2_with fail
   go_ret
   exact ⟨rfl,rfl⟩
theorem implAppendNamed(n:ByteArray)(v:Value)(o:List UInt8)(B:Nat)(w:World)(hE:Esc w)(hol:o.length≤1073741824)(hB:B≤w.heap.size)(hown:w.ownsRow B 5 1 v o.length (bcells o)):
  Calls Tryz.prog 128 #[v,.string n] w fun e w'=> ∃v',e=.returned (.tuple #[v',.bool (nameR n.data.toList).isSome])∧(∀r,nameR n.data.toList=some r→w'.ownsRow B 5 1 v' (o++Lib.encodeRune (r:Int)).length (bcells (o++Lib.encodeRune (r:Int))))∧Below B w w':=by
 obtain ⟨i0,hi,hz0,hz1,hz2⟩:=info_parts Tryz.info5
 have HE:Hid (Esc w):=hE
 have HO:Hid (w.ownsRow B 5 1 v o.length (bcells o)):=hown
 clear hE hown
 go_enter Tryz.func128,Tryz.ntmps128
 go_wp2_with (refine esc_ld HE.out rfl _ rfl rfl ?_)
 go_loopw[12] (fun i wr=> ∃k:Nat,k≤5∧i=.int .i64 k∧Hid (∀j,j<k→escN j≠n.data.toList)∧Below w.heap.size w wr) (fun i _=>5-(intOf i).toNat)
 case atStart=>exact ⟨0,Nat.zero_le _,rfl,fun j hj=>absurd hj (Nat.not_lt_zero _),Below.refl _ _⟩
 obtain ⟨k,hk,rfl,HNO,hbel⟩:=hrel
 have OW:Hid (wr.ownsRow B 5 1 v o.length (bcells o)):=own_below HO.out hbel
 have hsz:=hbel.size
 by_cases hlt:k<5
 ·have hki:(k:Int)<5:=by omega
  have ix:=esc_at k hlt
  have HT:Hid (nameR (escN k)=some (escM k)∧Lib.encodeRune ((escM k:Nat):Int)=[UInt8.ofNat (escM k)]):=name_tab k hlt
  have HML:Hid (escM k<256):=by
   show _<_
   match k,hlt with
   |0,_=>decide
   |1,_=>decide
   |2,_=>decide
   |3,_=>decide
   |4,_=>decide
  obtain ⟨nk,hnk⟩: ∃nk:ByteArray,(⟨(escN k).toArray⟩:ByteArray)=nk:=⟨_,rfl⟩
  have HNK:Hid (escN k=nk.data.toList):=by show _=_;rw[←hnk]
  rw[hnk]at ix
  clear hnk
  generalize hmk:escM k=mk at*
  clear hmk
  obtain ⟨U,hU⟩: ∃U,U=wr.alloc (.cells #[.int .u8 (mk:Int),.string nk] 117):=⟨_,rfl⟩
  have bU:Below wr.heap.size wr U:=by rw[hU];exact (Below.refl _ _).alloc (Nat.le_refl _) _
  have d0:U.cell? ⟨wr.heap.size,0,none⟩=some (.int .u8 (mk:Int)):=by rw[hU,World.cell?_alloc_at _ _ _ _ rfl];rfl
  have d1:U.cell? ⟨wr.heap.size,1,none⟩=some (.string nk):=by rw[hU,World.cell?_alloc_at _ _ _ _ rfl];rfl
  have OU:Hid (U.ownsRow B 5 1 v o.length (bcells o)):=own_below OW.out bU
  have BU:Below w.heap.size w U:=hbel.trans (bU.mono hbel.size)
  go_upto_region 4 with fail
  rw[←hU]
  clear hU bU OW hbel
  generalize wr.heap.size=D at*
  have hsU:=BU.size
  by_cases hq:nk=n
  ·subst hq
   have HF:Hid (nameR nk.data.toList=some mk):=by show _=_;rw[←HNK.out];exact HT.out.1
   have hown:=OU.out
   have HX:Hid ((mk:Int)=(((UInt8.ofNat mk).toNat:Nat):Int)):=by
    show _=_
    have:=HML.out
    simp
    omega
   clear HNO
   go_wp2_with (at_builtin;refine wpList_append_new _ rfl _ _ 22 rfl B 5 (.int .u8 0) 1 Tryz.underlying22 Tryz.info5 rfl _ _ _ rfl hown #[.int .u8 (mk:Int)] 1 rfl rfl (byte_one _) (by omega) (by unfold maxLen;omega) (by omega) ?_)
   intro v' w1 hown' hb1
   have R:=own_byte (UInt8.ofNat mk) HX.out hown'
   have B1:Below B w w1:=(BU.mono hB).trans hb1
   clear hown' hb1 hown
   go_wp2_with fail
   go_ret2
   refine ⟨v',by rw[HF.out];rfl,fun r hr=> ?_,B1⟩
   rw[HF.out]at hr
   cases hr
   rw[HT.out.2]
   exact R
  have hne:(nk.toList==n.toList)=false:=beq_eq_false_iff_ne.2 fun e=>hq (by
   rw[ByteArray.toList_eq,ByteArray.toList_eq]at e
   cases nk;cases n
   exact congrArg ByteArray.mk (Array.toList_inj.1 e))
  have HN2:Hid (∀j,j<k+1→escN j≠n.data.toList):=fun j hj=>by
   by_cases hjk:j<k
   ·exact HNO.out j hjk
   obtain rfl:j=k:=by omega
   rw[HNK.out]
   intro e
   apply hq
   cases nk;cases n
   exact congrArg ByteArray.mk (Array.toList_inj.1 e)
  go_wp2_with fail
  go_roundw
  case rel=>exact ⟨k+1,by omega,by go_num,HN2,BU⟩
  case measure=>simp[intOf]<;>omega
 have hki: ¬(k:Int)<5:=by omega
 have HN:=name_hashK (n:=n.data.toList) (fun j hj=>HNO.out j (by omega))
 have CR:Hid (∀W,CS 133 #[.string n] W (.int .i64 ((hashK n.data.toList:Nat):Int))):=fun W=>implRuneNumbered n W
 have HN':Hid (nameR n.data.toList=_):=HN
 clear HN HNO
 generalize hashK n.data.toList=kk at*
 go_wp2_with fail
 refine (CR.out _).mono ?_
 rintro e w' ⟨rfl,rfl⟩
 have hown1:Hid ((wr.alloc (.cells #[.int .i64 (kk:Int)] 3)).ownsRow wr.heap.size 3 1 (.slice (some ⟨wr.heap.size,0,none⟩) 1 1) 1 (icells [(kk:Int)])):=World.ownsRow_lit wr #[.int .i64 (kk:Int)] 1 (Nat.le_refl _) (by decide) rfl
 have OA:Hid ((wr.alloc (.cells #[.int .i64 (kk:Int)] 3)).ownsRow B 5 1 v o.length (bcells o)):=own_below OW.out ((Below.refl _ _).alloc (Nat.le_refl _) _)
 have BA:Below w.heap.size w (wr.alloc (.cells #[.int .i64 (kk:Int)] 3)):=hbel.alloc hbel.size _
 obtain ⟨x,b,CPR,hxs,HXB⟩: ∃(x:ByteArray) (b:Bool),Hid (∀W,W.ownsRow wr.heap.size 3 1 (.slice (some ⟨wr.heap.size,0,none⟩) 1 1) 1 (icells [(kk:Int)])→CB 134 #[.slice (some ⟨wr.heap.size,0,none⟩) 1 1] W (.tuple #[.string x,.bool b]))∧x.size≤4∧Hid ((b=true∧runeOk (kk:Int)∧x.data.toList=Lib.encodeRune (kk:Int))∨(b=false∧ ¬runeOk (kk:Int))):=by
  by_cases hr:runeOk (kk:Int)
  ·refine ⟨⟨(encAll [(kk:Int)]).toArray⟩,true,fun W h=>implPutRunes_ok [(kk:Int)] 1 _ _ W (by omega) (fun r hr2=>by rw[List.mem_singleton.1 hr2];exact hr) h,?_,.inl ⟨rfl,hr,?_⟩⟩
   ·have:=(enc_length (kk:Int)).2
    show (encAll [(kk:Int)]).length≤4
    simpa[encAll] using this
   show encAll [(kk:Int)]=_
   simp[encAll]
  exact ⟨⟨#[]⟩,false,fun W h=>implPutRunes_no [(kk:Int)] 1 _ _ W (by omega) (fun e=>hr (e _ (List.mem_singleton.2 rfl))) h,by decide,.inr ⟨rfl,hr⟩⟩
 clear CR
 go_wp2_with fail
 refine (CPR.out _ hown1.out).mono ?_
 rintro e w2 ⟨rfl,b2⟩
 have B2:=BA.trans (b2.mono BA.size)
 have O2:Hid (w2.ownsRow B 5 1 v o.length (bcells o)):=own_below OA.out b2
 have hs2:=B2.size
 clear b2 BA OA hown1 CPR OW hbel
 have hown:=O2.out
 have fin: ∀v3 w3,w3.ownsRow B 5 1 v3 (o.length+x.size) (bcells o++Lib.strCells x)→w2.grownBy w3 v.ownBlock→ ∃v',Ending.returned (.tuple #[v3,.bool (b&&((kk:Int) !=0))])=.returned (.tuple #[v',.bool (nameR n.data.toList).isSome])∧(∀r,nameR n.data.toList=some r→w3.ownsRow B 5 1 v' (o++Lib.encodeRune (r:Int)).length (bcells (o++Lib.encodeRune (r:Int))))∧Below B w w3:=fun v3 w3 o3 g3=>by
  have B3:Below B w w3:=(B2.mono hB).grown g3 (by omega) (fun b hb=>(O2.out.lt b hb).1)
  rw[HN'.out]
  rcases HXB.out with ⟨rfl,hr,hx⟩|⟨rfl,hr⟩
  ·by_cases h0:kk=0
   ·subst h0
    exact ⟨v3,rfl,fun r hr2=>(by simp at hr2),B3⟩
   have hp:0<kk∧kk≤1114111∧(kk<55296∨57343<kk):=by unfold runeOk at hr;omega
   have h0i:((kk:Int) !=0)=true:=bne_iff_ne.2 (by omega)
   rw[if_pos hp,h0i]
   exact ⟨v3,rfl,fun r hr2=>(by cases hr2;exact own_text x hx o3),B3⟩
  have hp: ¬(0<kk∧kk≤1114111∧(kk<55296∨57343<kk)):=fun h=>hr (by unfold runeOk;omega)
  rw[if_neg hp]
  exact ⟨v3,rfl,fun r hr2=>(by cases hr2),B3⟩
 have FIN:=hidU fin
 clear fin HN' HXB
 go_wp2_with (at_builtin;refine Lib.wpList_append_own_string _ rfl _ _ 22 9 rfl B 5 i0 Tryz.underlying22 Tryz.underlying9 hi hz0 hz1 hz2 _ _ _ rfl hown x rfl (by unfold maxLen;omega) (by omega) (by omega) ?_)
 intro v3 w3 o3 g3 _
 have F3:=hidU (FIN.out v3 w3 o3 g3)
 clear o3 g3 FIN hown
 cases b with
 |true=>
  go_wp2_with fail
  go_ret2
  exact F3.out
 |false=>
  go_wp2_with fail
  go_ret2
  exact F3.out
theorem implUnescape(s:ByteArray)(w:World)(hs:s.size≤16777216)(hE:Esc w):
  Calls Tryz.prog 120 #[.string s] w fun e w'=>e=.returned (unA (unF s.data.toList))∧Below w.heap.size w w':=by
 obtain ⟨i0,hi,hz0,hz1,hz2⟩:=info_parts Tryz.info5
 have HE:Hid (Esc w):=hE
 clear hE
 have hsl:s.data.toList.length=s.size:=by simp
 have parts: ∀(c:UInt8) (t:ByteArray),t.size≤16777216→ ∃(x y:ByteArray) (b:Bool),Hid (∀W,CB 27 #[.string t,.string ⟨#[c]⟩] W (.tuple #[.string x,.string y,.bool b]))∧Hid (x.data.toList=upB c t.data.toList∧y.data.toList=behB c t.data.toList∧b=t.data.toList.contains c)∧x.size+y.size≤t.size∧(b=true→x.size+y.size+1≤t.size):=fun c t ht=>by
  refine ⟨⟨(upB c t.data.toList).toArray⟩,⟨(behB c t.data.toList).toArray⟩,t.data.toList.contains c,fun W=>implCutFree c t W ht,⟨rfl,rfl,rfl⟩,?_,?_⟩
  ·obtain ⟨h1,h2,_⟩:=up_beh c t.data.toList
   have hl:t.data.toList.length=t.size:=by simp
   show (upB c t.data.toList).length+(behB c t.data.toList).length≤_
   cases hc:t.data.toList.contains c with
   |true=>
    have:=congrArg List.length (h1 hc)
    rw[List.length_append,List.length_cons]at this
    omega
   |false=>
    obtain ⟨e1,e2⟩:=h2 hc
    rw[e1,e2,hl]
    simp
  intro hc
  obtain ⟨h1,h2,_⟩:=up_beh c t.data.toList
  have hl:t.data.toList.length=t.size:=by simp
  show (upB c t.data.toList).length+(behB c t.data.toList).length+1≤_
  have:=congrArg List.length (h1 hc)
  rw[List.length_append,List.length_cons]at this
  omega
 have PARTS:=hidU parts
 clear parts hsl
 obtain ⟨p0,r0,f0,C0,H0,z0,z1⟩:=PARTS.out 38 s hs
 have HI0:Hid (unF s.data.toList=if f0=true then (unF (38::r0.data.toList)).map (fun t=>p0.data.toList++t)else some p0.data.toList):=by
  obtain ⟨e1,e2,e3⟩:=H0.out
  show _=_
  rw[e1,e2,e3]
  exact un_cut _
 clear H0 z1
 go_enter Tryz.func120,Tryz.ntmps120
 go_wp2_with (at_make;refine wpList_make_own _ rfl _ _ 22 rfl w.heap.size 5 i0 (.int .u8 0) 1 Tryz.underlying22 hi hz0 hz1 _ _ _ s.size rfl rfl (by omega) (by rw[hz2];omega) (by unfold maxLen;omega) (Nat.le_refl _) ?_)
 intro wm hmo hgm
 have Bm:Below w.heap.size w wm:=(Below.refl _ _).grown hgm (Nat.le_refl _) (fun k hk=>by cases hk)
 have HMO:Hid (wm.ownsRow w.heap.size 5 1 (.slice (some ⟨w.heap.size,0,none⟩) 0 s.size) ([]:List UInt8).length (bcells [])):=hmo
 clear hgm hmo
 go_wp2_with fail
 refine (C0.out _).mono ?_
 rintro e w1 ⟨rfl,b1⟩
 have B1:=Bm.trans (b1.mono Bm.size)
 have O1:Hid (w1.ownsRow w.heap.size 5 1 (.slice (some ⟨w.heap.size,0,none⟩) 0 s.size) ([]:List UInt8).length (bcells [])):=own_below HMO.out b1
 have hs1:=B1.size
 clear b1 HMO C0 Bm
 have hown:=O1.out
 go_wp2_with (at_builtin;refine Lib.wpList_append_own_string _ rfl _ _ 22 9 rfl w.heap.size 5 i0 Tryz.underlying22 Tryz.underlying9 hi hz0 hz1 hz2 _ _ _ rfl hown p0 rfl (by unfold maxLen;show 0+p0.size≤_;omega) (by show 0+p0.size≤_;omega) (by omega) ?_)
 intro v2 w2 o2 g2 _
 have O2:Hid (w2.ownsRow w.heap.size 5 1 v2 p0.data.toList.length (bcells p0.data.toList)):=own_text (o:=[]) p0 rfl (by rw[List.length_nil,Nat.zero_add];exact o2)
 have B2:Below w.heap.size w w2:=B1.grown g2 (by omega) (fun b hb=>(O1.out.lt b hb).1)
 clear o2 g2 hown O1 B1 hs1
 go_wp2_with fail
 go_loopw[4,5,6,7] (fun v _ r f wr=> ∃(o:List UInt8) (x:ByteArray) (b:Bool),r=.string x∧f=.bool b∧o.length+4*x.size≤4*s.size∧Hid (wr.ownsRow w.heap.size 5 1 v o.length (bcells o))∧Hid (unF s.data.toList=if b=true then (unF (38::x.data.toList)).map (fun t=>o++t)else some o)∧Below w.heap.size w wr)
  (fun _ _ r _ _=>match r with| .string x=>x.size|_=>0)
 case atStart=>exact ⟨p0.data.toList,r0,f0,rfl,rfl,by rw[show p0.data.toList.length=p0.size by simp];omega,O2,HI0,B2⟩
 obtain ⟨o,x,b,rfl,rfl,hol,HO,HI,hbel⟩:=hrel
 have hsz:=hbel.size
 cases b with
 |false=>
  have HF:Hid (unF s.data.toList=some o):=HI.out
  have hown:=HO.out
  have HV:=run_string_own (P:=Tryz.prog) wr 22 9 5 Tryz.underlying22 Tryz.underlying5 Tryz.underlying9 hown
  clear HI HO
  go_wp2
  go_ret2
  exact ⟨by rw[HF.out];rfl,hbel⟩
 |true=>
  have HI2:Hid (unF s.data.toList=(unF (38::x.data.toList)).map (fun t=>o++t)):=HI.out
  obtain ⟨nm,bh,en,C1,H1,z2,z3⟩:=PARTS.out 59 x (by omega)
  obtain ⟨pl,rs,fd,C2,H2,z4,_⟩:=PARTS.out 38 bh (by omega)
  have CN:Hid (∀(v:Value) (W:World),Below w.heap.size w W→W.ownsRow w.heap.size 5 1 v o.length (bcells o)→Calls Tryz.prog 128 #[v,.string nm] W fun e w'=> ∃v',e=.returned (.tuple #[v',.bool (nameR nm.data.toList).isSome])∧(∀r,nameR nm.data.toList=some r→w'.ownsRow w.heap.size 5 1 v' (o++Lib.encodeRune (r:Int)).length (bcells (o++Lib.encodeRune (r:Int))))∧Below w.heap.size W w'):=fun v W hW hv=>implAppendNamed nm v o w.heap.size W (HE.out.later hW) (by omega) hW.size hv
  have HA:Hid (unF s.data.toList=if en=true then (match nameR nm.data.toList with
    |some r=>((unF bh.data.toList).map fun t=>Lib.encodeRune (r:Int)++t).map fun t=>o++t
    |none=>none)else none):=by
   obtain ⟨e1,e2,e3⟩:=H1.out
   show _=_
   rw[HI2.out,unF_amp,←e1,←e2,←e3]
   cases en with
   |false=>rfl
   |true=>
    rw[if_pos rfl,if_pos rfl]
    cases nameR nm.data.toList<;>rfl
  have HB:Hid (unF bh.data.toList=if fd=true then (unF (38::rs.data.toList)).map (fun t=>pl.data.toList++t)else some pl.data.toList):=by
   obtain ⟨e1,e2,e3⟩:=H2.out
   show _=_
   rw[e1,e2,e3]
   exact un_cut _
  clear H1 H2 HI HI2
  go_wp2_with fail
  refine (C1.out _).mono ?_
  rintro e w3 ⟨rfl,b3⟩
  have B3:=hbel.trans (b3.mono hbel.size)
  have O3:Hid (w3.ownsRow w.heap.size 5 1 u4 o.length (bcells o)):=own_below HO.out b3
  clear b3 hbel HO C1
  go_wp2_with fail
  refine (CN.out _ _ B3 O3.out).mono ?_
  rintro e w4 ⟨v4,rfl,h4,b4⟩
  have B4:=B3.trans b4
  have H4:=hidU h4
  clear b4 h4 B3 O3 CN
  cases hx:nameR nm.data.toList with
  |none=>
   have HF:Hid (unF s.data.toList=none):=by
    have:=HA.out
    rw[hx]at this
    rw[this]
    show _=_
    cases en<;>rfl
   rw[show (none:Option Nat).isSome=false from rfl]
   clear HA hx H4
   cases en with
   |false=>
    go_wp2_with fail
    go_ret2
    exact ⟨by rw[HF.out];rfl,B4⟩
   |true=>
    go_wp2_with fail
    go_ret2
    exact ⟨by rw[HF.out];rfl,B4⟩
  |some r=>
   rw[show (some r:Option Nat).isSome=true from rfl]
   cases en with
   |false=>
    have HF:Hid (unF s.data.toList=none):=HA.out
    clear HA hx H4
    go_wp2_with fail
    go_ret2
    exact ⟨by rw[HF.out];rfl,B4⟩
   |true=>
    have hel:=(enc_length (r:Int)).2
    obtain ⟨o4,ho4⟩: ∃o4,o++Lib.encodeRune (r:Int)=o4:=⟨_,rfl⟩
    have O4:Hid (w4.ownsRow w.heap.size 5 1 v4 o4.length (bcells o4)):=by rw[←ho4];exact H4.out r hx
    have hl4:o4.length≤o.length+4:=by rw[←ho4,List.length_append];omega
    have HA4:Hid (unF s.data.toList=if fd=true then (unF (38::rs.data.toList)).map (fun t=>(o4++pl.data.toList)++t)else some (o4++pl.data.toList)):=by
     have:=HA.out
     rw[hx,if_pos rfl]at this
     show _=_
     rw[this,HB.out,←ho4]
     cases fd with
     |true=>
      rw[if_pos rfl,if_pos rfl]
      cases unF (38::rs.data.toList)<;>simp
     |false=>simp
    have z3':=z3 rfl
    clear HA hx H4 HB ho4 hel z3
    go_wp2_with fail
    refine (C2.out _).mono ?_
    rintro e w5 ⟨rfl,b5⟩
    have B5:=B4.trans (b5.mono B4.size)
    have O5:Hid (w5.ownsRow w.heap.size 5 1 v4 o4.length (bcells o4)):=own_below O4.out b5
    have hs5:=B5.size
    clear b5 B4 O4 C2
    have hown:=O5.out
    go_wp2_with (at_builtin;refine Lib.wpList_append_own_string _ rfl _ _ 22 9 rfl w.heap.size 5 i0 Tryz.underlying22 Tryz.underlying9 hi hz0 hz1 hz2 _ _ _ rfl hown pl rfl (by unfold maxLen;omega) (by omega) (by omega) ?_)
    intro v6 w6 o6 g6 _
    have O6:Hid (w6.ownsRow w.heap.size 5 1 v6 (o4++pl.data.toList).length (bcells (o4++pl.data.toList))):=own_text pl rfl o6
    have B6:Below w.heap.size w w6:=B5.grown g6 (by omega) (fun b hb=>(O5.out.lt b hb).1)
    have hl6:(o4++pl.data.toList).length+4*rs.size≤4*s.size:=by rw[List.length_append,show pl.data.toList.length=pl.size by simp];omega
    clear o6 g6 hown
    go_wp2_with fail
    go_roundw
    case rel=>exact ⟨_,rs,fd,rfl,rfl,hl6,O6,HA4,B6⟩
    case measure=>show rs.size<x.size;omega
end Go.Proofs.YtfdgehlobbeomaaGreatDoor
