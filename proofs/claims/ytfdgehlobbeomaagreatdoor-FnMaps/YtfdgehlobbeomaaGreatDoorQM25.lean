/- EntEq, MapHelp, TxtOne, PrioSpec, MapSpec, EscWalk, PrioImpl. -/
import Derived.Test.YtfdgehlobbeomaaGreatDoorQM24
import Derived.Test.YtfdgehlobbeomaaGreatDoorQM16
set_option maxHeartbeats 4000000
set_option maxRecDepth 100000
namespace Go.Proofs.YtfdgehlobbeomaaGreatDoor
open Go.RowKit
set_option linter.unusedVariables false
theorem map_result1{fn:Func}{q:Tmp}(h:fn.results= #[.cell q 26])(tmps:Array Value)(W:World)(B:Nat)(a b:Value)
  (hp:tmps[q]?.getD undef=.pointer (some ⟨B,0,none⟩)) (ha:BAt W B [a,b]):(results fn tmps).run Tryz.prog W=.ok (.agg #[a,b]) W:=by
 have c0:=ha.1 0 _ rfl
 have c1:=ha.1 1 _ rfl
 simp[results,h,hp,asAddr,go_sem,c0,c1,Addr.add_lit]
end Go.Proofs.YtfdgehlobbeomaaGreatDoor
namespace Go.Proofs.YtfdgehlobbeomaaGreatDoor
open Go.RowKit
end Go.Proofs.YtfdgehlobbeomaaGreatDoor
namespace Go.Proofs.YtfdgehlobbeomaaGreatDoor
open Go.RowKit
set_option linter.unusedVariables false
set_option linter.unusedSimpArgs false
def prioV(z:Int):ByteArray:=⟨(prioT z).toArray⟩
theorem prioV_size(z:Int):(prioV z).size≤5:=by
 show (prioT z).length≤5
 unfold prioT
 split
 ·exact Nat.le_refl _
 exact Nat.zero_le _
theorem hidM{p:Prop}(h:p):Hid p:=h
theorem app_data14(a b:ByteArray):(a++b).data.toList=a.data.toList++b.data.toList:=by simp
theorem flat_next13{α β:Type}(f:α→List β)(d:α)(l:List α){k:Nat}(h:k<l.length):(l.take (k+1)).flatMap f=(l.take k).flatMap f++f (l.getD k d):=by
 rw[List.take_add_one,List.getElem?_eq_getElem h,List.flatMap_append,List.getD_eq_getElem?_getD,List.getElem?_eq_getElem h]
 simp
theorem entT_len(b:Bool)(e:EV):(entT b e).length≤6*e.s.size+70:=by
 have h1:=esc_len e.s.data.toList
 have h2:e.s.data.toList.length=e.s.size:=by simp
 have h3:(prioT e.k).length≤5:=prioV_size e.k
 have h4:(entN b).length≤7:=by cases b<;>decide
 unfold entT
 simp only[List.length_cons,List.length_append,List.length_nil,show nLoc.length=3 from rfl,show nPrio.length=8 from rfl]
 omega
theorem ents_len(b:Bool): ∀(l:List EV) (k:Nat),k≤l.length→((l.take k).flatMap (entT b)).length≤6*psum (fun i=>(l.getD i ev0).s.size) k+70*k
 |l,0,_=>by simp
 |l,k+1,h=>by
  rw[flat_next13 (entT b) ev0 l (by omega),List.length_append]
  have h1:=ents_len b l k (by omega)
  have h2:=entT_len b (l.getD k ev0)
  show _≤6*(psum _ k+(l.getD k ev0).s.size)+_
  omega
def nmV(b:Bool):ByteArray:=⟨(entN b).toArray⟩
def rtV(b:Bool):ByteArray:=⟨(rootN b).toArray⟩
end Go.Proofs.YtfdgehlobbeomaaGreatDoor
namespace Go.Proofs.YtfdgehlobbeomaaGreatDoor
open Go.RowKit
set_option linter.unusedVariables false
theorem escC_at(c:UInt8)(k:Nat)(h:k<5)(hc:escM k=c.toNat):escC c=[38]++escN k++[59]:=by
 match k,h with
 |0,_=>obtain rfl:c=38:=UInt8.toNat_inj.1 hc.symm;rfl
 |1,_=>obtain rfl:c=60:=UInt8.toNat_inj.1 hc.symm;rfl
 |2,_=>obtain rfl:c=62:=UInt8.toNat_inj.1 hc.symm;rfl
 |3,_=>obtain rfl:c=34:=UInt8.toNat_inj.1 hc.symm;rfl
 |4,_=>obtain rfl:c=39:=UInt8.toNat_inj.1 hc.symm;rfl
theorem escC_no(c:UInt8)(h: ∀k,k<5→escM k≠c.toNat):escC c=[c]:=by
 have n1:c≠38:=fun e=>h 0 (by decide) (by rw[e];rfl)
 have n2:c≠60:=fun e=>h 1 (by decide) (by rw[e];rfl)
 have n3:c≠62:=fun e=>h 2 (by decide) (by rw[e];rfl)
 have n4:c≠34:=fun e=>h 3 (by decide) (by rw[e];rfl)
 have n5:c≠39:=fun e=>h 4 (by decide) (by rw[e];rfl)
 unfold escC
 rw[if_neg n1,if_neg n2,if_neg n3,if_neg n4,if_neg n5]
theorem escN_len(k:Nat):(escN k).length≤4:=by
 unfold escN
 split<;>decide
theorem implAppendEsc(c:UInt8)(d:Nat)(v:Value)(o:List UInt8)(B:Nat)(w:World)(hd:c.toNat=d)(hE:Esc w)(hol:o.length≤1073741824)(hB:B≤w.heap.size)(hown:w.ownsRow B 5 1 v o.length (bcells o)):
  Calls Tryz.prog 58 #[v,.int .u8 (d:Int)] w fun e w'=> ∃v',e=.returned v'∧w'.ownsRow B 5 1 v' (o++escC c).length (bcells (o++escC c))∧Below B w w':=by
 obtain ⟨i0,hi,hz0,hz1,hz2⟩:=info_parts Tryz.info5
 have HE:Hid (Esc w):=hE
 have HD:Hid (c.toNat=d):=hd
 have HO:Hid (w.ownsRow B 5 1 v o.length (bcells o)):=hown
 clear hE hd hown
 go_enter Tryz.func58,Tryz.ntmps58
 go_wp2_with (refine esc_ld HE.out rfl _ rfl rfl ?_)
 go_loopw[0,8] (fun b i wr=> ∃k:Nat,k≤5∧v=b∧i=.int .i64 k∧Hid (∀j,j<k→escM j≠d)∧Below w.heap.size w wr) (fun _ i _=>5-(intOf i).toNat)
 case atStart=>exact ⟨0,Nat.zero_le _,rfl,rfl,fun j hj=>absurd hj (Nat.not_lt_zero _),Below.refl _ _⟩
 obtain ⟨k,hk,rfl,rfl,HNO,hbel⟩:=hrel
 have OW:Hid (wr.ownsRow B 5 1 v o.length (bcells o)):=own_below HO.out hbel
 have hsz:=hbel.size
 by_cases hlt:k<5
 ·have hki:(k:Int)<5:=by omega
  have ix:=esc_at k hlt
  have HC:Hid (escM k=d→escC c=[38]++escN k++[59]):=fun h=>escC_at c k hlt (h.trans HD.out.symm)
  have hnl:=escN_len k
  generalize hmk:escM k=mk at*
  have HMK:Hid (escM k=mk):=hmk
  clear hmk
  generalize escN k=nk at*
  obtain ⟨U,hU⟩: ∃U,U=wr.alloc (.cells #[.int .u8 (mk:Int),.string ⟨nk.toArray⟩] 117):=⟨_,rfl⟩
  have bU:Below wr.heap.size wr U:=by rw[hU];exact (Below.refl _ _).alloc (Nat.le_refl _) _
  have d0:U.cell? ⟨wr.heap.size,0,none⟩=some (.int .u8 (mk:Int)):=by rw[hU,World.cell?_alloc_at _ _ _ _ rfl];rfl
  have d1:U.cell? ⟨wr.heap.size,1,none⟩=some (.string ⟨nk.toArray⟩):=by rw[hU,World.cell?_alloc_at _ _ _ _ rfl];rfl
  have hsU:U.heap.size=wr.heap.size+1:=by rw[hU];simp
  have HSU:Hid (U.heap.size=wr.heap.size+1):=hsU
  have OU:Hid (U.ownsRow B 5 1 v o.length (bcells o)):=own_below OW.out bU
  have BU:Below w.heap.size w U:=hbel.trans (bU.mono hbel.size)
  go_upto_region 4 with fail
  rw[←hU]
  have HNE:Hid (∀j,v.ownBlock=some j→j<wr.heap.size):=fun j hj=>(OW.out.lt j hj).2
  clear hU hsU bU OW hbel
  generalize wr.heap.size=D at*
  have hsU:=BU.size
  by_cases hq:mk=d
  ·have hqi:((mk:Int)==(d:Int))=true:=beq_iff_eq.2 (by omega)
   have hown:=OU.out
   go_wp2_with (at_builtin;refine Lib.wpList_append_own_string _ rfl _ _ 22 9 rfl B 5 i0 Tryz.underlying22 Tryz.underlying9 hi hz0 hz1 hz2 _ _ _ rfl hown ⟨#[38]⟩ rfl (by unfold maxLen;show o.length+1≤_;omega) (by show o.length+1≤_;omega) (by omega) ?_)
   intro v1 w1 o1 g1 _
   obtain ⟨p1,hp1⟩: ∃p,o++[38]=p:=⟨_,rfl⟩
   have HP1:Hid (o++[38]=p1):=hp1
   have hl1:p1.length≤o.length+1:=by rw[←hp1];simp
   have O1:Hid (w1.ownsRow B 5 1 v1 p1.length (bcells p1)):=by
    rw[←hp1]
    exact own_text ⟨#[38]⟩ rfl o1
   have B1:Below B w w1:=(BU.mono hB).grown g1 (by omega) (fun b hb=>(OU.out.lt b hb).1)
   have hD1:=g1.block D (by have:=HSU.out;omega) (fun e=>by have:=HNE.out D e.symm;omega)
   have c1:=(World.cell?_of_block (a:=⟨D,1,none⟩) hD1).trans d1
   have hs1:=g1.size
   clear o1 g1 hown d0 d1 hD1 hp1
   have hown:=O1.out
   go_wp2_with (at_builtin;refine Lib.wpList_append_own_string _ rfl _ _ 22 9 rfl B 5 i0 Tryz.underlying22 Tryz.underlying9 hi hz0 hz1 hz2 _ _ _ rfl hown ⟨nk.toArray⟩ rfl (by unfold maxLen;show p1.length+nk.length≤_;omega) (by show p1.length+nk.length≤_;omega) (by omega) ?_)
   intro v2 w2 o2 g2 _
   obtain ⟨p2,hp2⟩: ∃p,p1++nk=p:=⟨_,rfl⟩
   have HP2:Hid (p1++nk=p2):=hp2
   have hl2:p2.length≤o.length+5:=by rw[←hp2,List.length_append];omega
   have O2:Hid (w2.ownsRow B 5 1 v2 p2.length (bcells p2)):=by
    rw[←hp2]
    exact own_text ⟨nk.toArray⟩ rfl o2
   have B2:Below B w w2:=B1.grown g2 (by omega) (fun b hb=>(O1.out.lt b hb).1)
   have hs2:=g2.size
   clear o2 g2 hown c1 hp2
   have hown:=O2.out
   go_wp2_with (at_builtin;refine Lib.wpList_append_own_string _ rfl _ _ 22 9 rfl B 5 i0 Tryz.underlying22 Tryz.underlying9 hi hz0 hz1 hz2 _ _ _ rfl hown ⟨#[59]⟩ rfl (by unfold maxLen;show p2.length+1≤_;omega) (by show p2.length+1≤_;omega) (by omega) ?_)
   intro v3 w3 o3 g3 _
   have O3:Hid (w3.ownsRow B 5 1 v3 (o++[38]++nk++[59]).length (bcells (o++[38]++nk++[59]))):=by
    rw[HP1.out,HP2.out]
    exact own_text ⟨#[59]⟩ rfl o3
   have B3:Below B w w3:=B2.grown g3 (by omega) (fun b hb=>(O2.out.lt b hb).1)
   clear o3 g3 hown
   go_wp2_with fail
   go_ret
   refine ⟨v3,rfl,?_,B3⟩
   rw[HC.out hq,←List.append_assoc,←List.append_assoc]
   exact O3.out
  have hqi:((mk:Int)==(d:Int))=false:=beq_eq_false_iff_ne.2 (by omega)
  have HN2:Hid (∀j,j<k+1→escM j≠d):=fun j hj=>by
   by_cases hjk:j<k
   ·exact HNO.out j hjk
   obtain rfl:j=k:=by omega
   rw[HMK.out]
   exact hq
  go_wp2_with fail
  go_roundw
  case rel=>exact ⟨k+1,by omega,rfl,by go_num,HN2,BU⟩
  case measure=>simp[intOf]<;>omega
 have hki: ¬(k:Int)<5:=by omega
 have HC:Hid (escC c=[c]):=escC_no c (fun j hj=>by rw[HD.out];exact HNO.out j (by omega))
 have HX:Hid ((d:Int)=((c.toNat:Nat):Int)):=by show _=_;rw[HD.out]
 have hown:=OW.out
 go_wp2_with (at_builtin;refine wpList_append_new _ rfl _ _ 22 rfl B 5 (.int .u8 0) 1 Tryz.underlying22 Tryz.info5 rfl _ _ _ rfl hown #[.int .u8 (d:Int)] 1 rfl rfl (byte_one _) (by omega) (by unfold maxLen;omega) (by omega) ?_)
 intro v' w1 hown' hb1
 have R:=own_byte c HX.out hown'
 have B1:Below B w w1:=(hbel.mono hB).trans hb1
 clear hown' hb1 hown
 go_wp2_with fail
 go_ret
 refine ⟨v',rfl,?_,B1⟩
 rw[HC.out]
 exact R
theorem implEscape(s:ByteArray)(w:World)(hs:s.size≤16777216)(hE:Esc w):
  Calls Tryz.prog 40 #[.string s] w fun e w'=>e=.returned (.string ⟨(escL s.data.toList).toArray⟩)∧Below w.heap.size w w':=by
 have HE:Hid (Esc w):=hE
 clear hE
 obtain ⟨i0,hi,hz0,hz1,hz2⟩:=info_parts Tryz.info5
 go_enter Tryz.func40,Tryz.ntmps40
 go_wp2_with (at_make;refine wpList_make_own _ rfl _ _ 22 rfl w.heap.size 5 i0 (.int .u8 0) 1 Tryz.underlying22 hi hz0 hz1 _ _ _ s.size rfl rfl (by omega) (by rw[hz2];omega) (by unfold maxLen;omega) (Nat.le_refl _) ?_)
 intro wm hmo hgm
 have Bm:Below w.heap.size w wm:=(Below.refl _ _).grown hgm (Nat.le_refl _) (fun k hk=>by cases hk)
 have HMO:Hid (wm.ownsRow w.heap.size 5 1 (.slice (some ⟨w.heap.size,0,none⟩) 0 s.size) ([]:List UInt8).length (bcells [])):=hmo
 clear hgm hmo
 go_wp2_with fail
 go_loopw[3,10] (fun v i wr=> ∃(k:Nat) (o:List UInt8),k≤s.size∧i=.int .i64 k∧o.length≤6*k∧Hid (wr.ownsRow w.heap.size 5 1 v o.length (bcells o))∧Hid (o=escL (s.data.toList.take k))∧Below w.heap.size w wr)
  (fun _ i _=>s.size-(intOf i).toNat)
 case atStart=>exact ⟨0,[],Nat.zero_le _,rfl,Nat.zero_le _,HMO,rfl,Bm⟩
 obtain ⟨k,o,hk,rfl,hol,HO,HX,hbel⟩:=hrel
 have hsz:=hbel.size
 by_cases hlt:k<s.size
 ·have hki:(k:Int)<s.size:=by omega
  obtain ⟨d,hd⟩: ∃d:Nat,(s[k]'hlt).toNat=d:=⟨_,rfl⟩
  have ix:=run_at Tryz.prog 9 Tryz.underlying9 s (k:Int) k d hlt rfl hd
  have HY:Hid (o++escC (s[k]'hlt)=escL (s.data.toList.take (k+1))):=by show _=_;rw[escL_take hlt,HX.out]
  have HL:Hid ((escC (s[k]'hlt)).length≤6):=by
   have:=esc_len [s[k]'hlt]
   unfold escL at this
   show _≤_
   simpa using this
  have CA:Hid (∀(v:Value) (W:World),Below w.heap.size w W→W.ownsRow w.heap.size 5 1 v o.length (bcells o)→Calls Tryz.prog 58 #[v,.int .u8 (d:Int)] W fun e w'=> ∃v',e=.returned v'∧w'.ownsRow w.heap.size 5 1 v' (o++escC (s[k]'hlt)).length (bcells (o++escC (s[k]'hlt)))∧Below w.heap.size W w'):=fun v W hW hv=>implAppendEsc (s[k]'hlt) d v o w.heap.size W hd (HE.out.later hW) (by omega) hW.size hv
  clear hd
  generalize escC (s[k]'hlt)=x at*
  go_wp2_with fail
  refine (CA.out _ _ hbel HO.out).mono ?_
  rintro e w1 ⟨v1,rfl,o1,b1⟩
  have B1:=hbel.trans b1
  have O1:Hid (w1.ownsRow w.heap.size 5 1 v1 (o++x).length (bcells (o++x))):=o1
  have hl1:(o++x).length≤6*(k+1):=by rw[List.length_append];have:=HL.out;omega
  clear o1 b1 CA
  go_wp2_with fail
  go_roundw
  case rel=>exact ⟨k+1,_,by omega,by go_num,hl1,O1,HY,B1⟩
  case measure=>simp[intOf]<;>omega
 have hki: ¬(k:Int)<s.size:=by omega
 have hown:=HO.out
 have HV:=run_string_own (P:=Tryz.prog) wr 22 9 5 Tryz.underlying22 Tryz.underlying5 Tryz.underlying9 hown
 have HF:Hid (o=escL s.data.toList):=by
  have:=HX.out
  rwa[take_all s k (by omega)]at this
 clear HX HO
 go_wp2
 go_ret
 exact ⟨by rw[HF.out];rfl,hbel⟩
end Go.Proofs.YtfdgehlobbeomaaGreatDoor
namespace Go.Proofs.YtfdgehlobbeomaaGreatDoor
open Go.RowKit
set_option linter.unusedVariables false
set_option linter.unusedSimpArgs false
theorem implLastDigit(z:Int)(w:World)(h0:0≤z)(h1:z≤1000):
  Calls Tryz.prog 26 #[.int .i64 z] w fun e w'=>e=.returned (.int .u8 (48+z%10))∧w=w':=by
 have hr:z.tmod 10=z%10:=Int.tmod_eq_emod_of_nonneg h0
 go_enter Tryz.func26,Tryz.ntmps26
 go_wp2_with fail
 go_ret
 exact ⟨rfl,rfl⟩
theorem conv_five(W:World)(x:List UInt8)(l:List Value)(hl:x.map (fun c=>Value.int .u8 (c.toNat:Int))=l)(h5:x.length=5):
  (convert 22 9 (.slice (some ⟨W.heap.size,0,none⟩) 5 5)).run Tryz.prog (W.alloc (.cells l.toArray 5))=.ok (.string ⟨x.toArray⟩) (W.alloc (.cells l.toArray 5)):=by
 subst hl
 have h:=run_convert_bytes_back (P:=Tryz.prog) (W.alloc (.cells (x.map (fun c=>Value.int .u8 (c.toNat:Int))).toArray 5)) 22 9 5 ⟨W.heap.size,0,none⟩ 5 x Tryz.underlying22 Tryz.underlying5 Tryz.underlying9 (fun j hj=>by
  rw[Addr.add_lit,World.cell?_alloc_at _ _ _ _ rfl]
  simp[hj])
 rw[h5]at h
 exact h
theorem dg_val(n:Nat)(h:n<10):((dgB n).toNat:Int)=48+n:=by rw[dgB_dig n h];omega
theorem implPriorityText(z:Int)(w:World):Calls Tryz.prog 10 #[.int .i64 z] w fun e w'=>e=.returned (.string (prioV z))∧Below w.heap.size w w':=by
 by_cases h:0≤z∧z≤1000
 ·obtain ⟨h0,h1⟩:=h
  have hcv:=conv_five w (prioT z) [.int .u8 (48+z/1000%10),.int .u8 46,.int .u8 (48+z/100%10),.int .u8 (48+z/10%10),.int .u8 (48+z%10)] (by
   rw[prioT_in h0 h1]
   simp only[List.map_cons,List.map_nil]
   rw[dg_val _ (by omega),dg_val _ (by omega),dg_val _ (by omega),dg_val _ (by omega),show ((46:UInt8).toNat:Int)=46 from rfl]
   congr 1
   ·congr 1;omega
   congr 1
   congr 1
   ·congr 1;omega
   congr 1
   ·congr 1;omega
   congr 1
   congr 1;omega) (by rw[prioT_in h0 h1];rfl)
  rw[show (⟨(prioT z).toArray⟩:ByteArray)=prioV z from rfl]at hcv
  generalize prioV z=T at hcv⊢
  go_enter Tryz.func10,Tryz.ntmps10
  go_wp2_with (go_at_call 26;refine (implLastDigit _ _ (by omega) (by omega)).mono ?_;rintro e w' ⟨rfl,rfl⟩)
  go_ret
  exact ⟨rfl,(Below.refl _ _).alloc (Nat.le_refl _) _⟩
 have HT:prioV z=⟨#[]⟩:=by unfold prioV prioT;rw[if_neg h]
 rw[HT]
 clear HT
 go_enter Tryz.func10,Tryz.ntmps10
 by_cases hz:z<0
 ·go_wp2_with fail
  go_ret
  exact ⟨rfl,Below.refl _ _⟩
 have hz1:1000<z:=by omega
 go_wp2_with fail
 go_ret
 exact ⟨rfl,Below.refl _ _⟩
end Go.Proofs.YtfdgehlobbeomaaGreatDoor
