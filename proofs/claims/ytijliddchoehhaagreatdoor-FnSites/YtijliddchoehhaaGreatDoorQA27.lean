/- Grp6Spec, HostKinds, ArrEq, HostEq. -/
import Derived.Test.YtijliddchoehhaaGreatDoorQA26
import Derived.ChangeKeysEq
import Derived.Laws.StructEq
set_option maxHeartbeats 8000000
set_option maxRecDepth 100000
namespace Go.Proofs.YtijliddchoehhaaGreatDoor
open Go.RowKit
theorem Tryz.infoI5:(Tryz.prog.info? 3).map (fun i=>(i.zero,i.size,i.bytes))=some (some (.int .i64 0),1,8):=by kernel_rfl
def toI(gs:List Nat):List Int:=gs.map (fun n:Nat=>(n:Int))
theorem toI_snoc(gs:List Nat)(n:Nat):toI (gs++[n])=toI gs++[(n:Int)]:=by simp[toI]
theorem toI_len(gs:List Nat):(toI gs).length=gs.length:=by simp[toI]
def grpAns(w w':World)(r:Option (List Nat))(e:Ending):Prop:=
 ∃(v:Value) (l:List Nat),e=.returned (.tuple #[v,.bool r.isSome])∧w'.ownsRow w.heap.size 3 1 v l.length (icells (toI l))∧l.length≤1048580∧ ∀gs,r=some gs→l=gs
theorem grp_step(t:Bool)(fs:List ByteArray)(k:Nat)(h:k<fs.length):grp t ((fs.drop k).map toL)=match (if t=true∧k+1=fs.length then p4 (toL (fs.getD k ByteArray.empty))else none)with
  |some n=>some [n/65536,n%65536]
  |none=>match g16 (toL (fs.getD k ByteArray.empty))with
   |none=>none
   |some v=>(grp t ((fs.drop (k+1)).map toL)).map (v:: ·):=by
 rw[drop_bytes fs k h,List.map_cons,grp]
 have e:(t&&((fs.drop (k+1)).map toL).isEmpty)=decide (t=true∧k+1=fs.length):=by
  have e2:((fs.drop (k+1)).map toL).isEmpty=decide (k+1=fs.length):=by
   by_cases h2:k+1=fs.length
   ·rw[decide_eq_true h2,List.drop_of_length_le (by omega)];rfl
   rw[decide_eq_false h2,drop_bytes fs (k+1) (by omega)];rfl
  rw[e2]
  cases t<;>simp
 rw[e]
 by_cases c:t=true∧k+1=fs.length
 ·rw[decide_eq_true c,if_pos c];rfl
 rw[decide_eq_false c,if_neg c];rfl
theorem grp_end(t:Bool)(fs:List ByteArray)(k:Nat)(h: ¬k<fs.length):grp t ((fs.drop k).map toL)=some []:=by
 rw[List.drop_of_length_le (by omega)];rfl
theorem g16_nil{y:ByteArray}(h:y.size=0):g16 (toL y)=none:=by
 have:toL y=[]:=List.eq_nil_of_length_eq_zero (by simpa[toL] using h)
 rw[this];rfl
theorem g16_num{y:ByteArray}(h:0<y.size):g16 (toL y)=numL 16 4 (toL y):=by
 unfold g16
 rw[show (toL y).isEmpty=false by unfold toL;rw[toL_one y h];rfl]
 rfl
theorem g16_lt{l:List UInt8}{v:Nat}(h:numL 16 4 l=some v):v<65536:=by
 have key: ∀(l:List UInt8) (n:Nat) (m v:Nat),n<16^m→digF 16 n l=some v→v<16^(m+l.length):=by
  intro l
  induction l with
  |nil=>intro n m v hn h;cases h;simpa using hn
  |cons c r ih=>
   intro n m v hn h
   rw[digF]at h
   split at h
   ·rename_i hc
    have:=ih _ (m+1) v (pow_room (base:=16) (by omega) (by omega) hn) h
    rw[List.length_cons,show m+(r.length+1)=m+1+r.length by omega]
    exact this
   cases h
 unfold numL at h
 split at h
 ·rename_i hl
  have h1:=key l 0 0 v (by decide) h
  exact Nat.lt_of_lt_of_le h1 (Nat.le_trans (Nat.pow_le_pow_right (n:=16) (j:=4) (by decide) (by omega)) (by decide))
 cases h
theorem grpS_nil{t:Bool}{s:ByteArray}(h:s.size=0):grpS t s.data.toList=some []:=by
 have:s.data.toList=[]:=List.eq_nil_of_length_eq_zero (by simpa using h)
 rw[this];rfl
theorem grpS_fields{t:Bool}{s:ByteArray}(h:0<s.size):grpS t s.data.toList=grp t ((fieldsL s 58).map toL):=by
 unfold grpS
 rw[show s.data.toList.isEmpty=false by rw[toL_one s h];rfl,fieldsL_58]
 rfl
theorem fields_sizes58(s:ByteArray)(hs:s.size≤1048576): ∀x∈fieldsL s 58,x.size≤1048576:=fun x hx=>Nat.le_trans (fieldsL_sizes s 58 x hx) hs
theorem specGroups(s:ByteArray)(t:Bool)(w:World)(hs:s.size≤1048576):
  Calls Tryz.prog 98 #[.string s,.bool t] w fun e w'=>grpAns w w' (grpS t s.data.toList) e∧Below w.heap.size w w':=by
 have HO:(w.alloc (.cells #[] 3)).ownsRow w.heap.size 3 1 (.slice (some ⟨w.heap.size,0,none⟩) 0 0) 0 []:=World.ownsRow_lit w #[] 0 (Nat.le_refl _) (by decide) rfl
 by_cases h0:s.size=0
 ·have hem:=empty_yes h0
  have HZ:Hid (grpS t s.data.toList=some []):=grpS_nil h0
  clear h0
  go_enter Tryz.func98,Tryz.ntmps98
  go_wp2_with fail
  go_ret2
  exact ⟨⟨_,[],by rw[HZ.out];rfl,HO,by simp,fun gs h=>by rw[HZ.out]at h;cases h;rfl⟩,(Below.refl _ _).alloc (Nat.le_refl _) _⟩
 have hp:0<s.size:=by omega
 have hem:=empty_no hp
 have HF:Hid (grpS t s.data.toList=grp t ((fieldsL s 58).map toL)):=grpS_fields hp
 have hpos:0<(fieldsL s 58).length:=by simp[fieldsL]
 have hlen:(fieldsL s 58).length≤1048577:=by
  have:=(fieldsTo_le s 58 s.size).2
  simp[fieldsL];omega
 have HSZ:Hid (∀x∈fieldsL s 58,x.size≤1048576):=fields_sizes58 s hs
 have CF:Hid (∀W,Calls Tryz.prog 66 #[.string s,.int .u8 58] W fun e w'=> ∃v,e=.returned v∧w'.ownsRow W.heap.size 9 1 v (fieldsL s 58).length (scells (fieldsL s 58))∧Below W.heap.size W w'):=fun W=>specFields s 58 W hs
 generalize fieldsL s 58=fs at HF hpos hlen HSZ CF
 clear h0
 go_enter Tryz.func98,Tryz.ntmps98
 go_wp2_with fail
 refine (CF.out _).mono ?_
 rintro e wa ⟨va,rfl,oa,ba⟩
 have OA:=own_below HO ba
 rcases own_shape oa with ⟨h,_⟩|⟨_,g,cap,rfl⟩
 ·omega
 have hg:=(oa.lt g rfl).1
 have hg2:=(oa.lt g rfl).2
 have B0:Below w.heap.size w wa:=((Below.refl _ w).alloc (Nat.le_refl _) _).trans (ba.mono (by simp))
 have HC0:Hid (∀j,j<fs.length→wa.cell? ⟨g,j,none⟩=some (.string (fs.getD j ByteArray.empty))):=fun j hj=>scell_at oa j hj
 clear ba HO oa CF
 go_wp2_with fail
 go_loopw[6,8] (fun v i wr=> ∃(k:Nat) (acc:List Nat),k≤fs.length∧i=.int .i64 k∧acc.length≤k∧grp t (fs.map toL)=(grp t ((fs.drop k).map toL)).map (acc++ ·)∧wr.ownsRow w.heap.size 3 1 v acc.length (icells (toI acc))∧(∀j,j<fs.length→wr.cell? ⟨g,j,none⟩=some (.string (fs.getD j ByteArray.empty)))∧some g≠v.ownBlock∧g<wr.heap.size∧Below w.heap.size w wr)
  (fun _ i _=>fs.length-(intOf i).toNat)
 case atStart=>
  refine ⟨0,[],Nat.zero_le _,rfl,by simp,by simp,OA,HC0.out,?_,hg2,B0⟩
  simp[Value.ownBlock]
  simp at hg
  omega
 obtain ⟨k,acc,hk,rfl,hal,hr,ow,hcell,hne,hgl,hbel⟩:=hrel
 have HR:Hid (grp t (fs.map toL)=(grp t ((fs.drop k).map toL)).map (acc++ ·)):=hr
 have HCL:Hid (∀j,j<fs.length→wr.cell? ⟨g,j,none⟩=some (.string (fs.getD j ByteArray.empty))):=hcell
 have hsz:=hbel.size
 clear hr OA B0 HC0
 by_cases hlt:k<fs.length
 ·have hc:=hcell k hlt
  have hsy:=HSZ.out _ (mem_getD (k:=k) hlt)
  have HS:Hid (_=_):=grp_step t fs k hlt
  have CP:Hid (∀W,CB 115 #[.string (fs.getD k ByteArray.empty)] W (numA (p4 (toL (fs.getD k ByteArray.empty))))):=fun W=>specParseIp4 _ W hsy
  have CN:Hid (∀W,CS 116 #[.string (fs.getD k ByteArray.empty),.int .i64 16,.int .i64 4] W (.int .i64 (numZ (numL 16 4 (toL (fs.getD k ByteArray.empty)))))):=fun W=>spec5Number _ 16 4 W (by omega) (by omega)
  have HCK:Hid (∀W,Below wr.heap.size wr W→W.cell? ⟨g,k,none⟩=some (.string (fs.getD k ByteArray.empty))):=fun W hb=>cell_later hb (HCL.out k hlt)
  clear hcell
  generalize fs.getD k ByteArray.empty=y at hc hsy HS CP CN HCK
  have hki:(k:Int)<(fs.length:Int):=by omega
  clear hsy
  go_wp2_with fail
  refine (CP.out _).mono ?_
  rintro e wb ⟨rfl,bb⟩
  have hcb:=HCK.out _ bb
  have o2:=own_below ow bb
  have B2:=hbel.trans (bb.mono hsz)
  have z2:=B2.size
  have hgl2:g<wb.heap.size:=Nat.lt_of_lt_of_le hgl bb.size
  have HC2:Hid (∀j,j<fs.length→wb.cell? ⟨g,j,none⟩=some (.string (fs.getD j ByteArray.empty))):=fun j hj=>cell_later bb (HCL.out j hj)
  clear hc ow hbel bb HCL HCK
  cases hp4:p4 (toL y)with
  |none=>
   have HN0:Hid ((if t=true∧k+1=fs.length then p4 (toL y)else none)=none):=by
    show _=_
    rw[hp4]
    split<;>rfl
   clear hp4
   simp only[numA]
   by_cases he:y.size=0
   ·have HZ:Hid (grpS t s.data.toList=none):=by
     show _=_
     rw[HF.out,HR.out,HS.out,HN0.out,g16_nil he]
     rfl
    have hem:=empty_yes he
    clear he
    generalize numZ (numL 16 4 (toL y))=zz at CN
    go_wp2_with fail
    refine (CN.out _).mono ?_
    rintro e w' ⟨rfl,rfl⟩
    go_wp2_with fail
    go_ret2
    exact ⟨⟨_,acc,by rw[HZ.out];rfl,o2,by omega,fun gs h=>by rw[HZ.out]at h;cases h⟩,B2⟩
   have hpy:0<y.size:=by omega
   have hem:=empty_no hpy
   have HS1:Hid (g16 (toL y)=numL 16 4 (toL y)):=g16_num hpy
   clear he
   cases hv:numL 16 4 (toL y)with
   |none=>
    rw[hv]at CN HS1
    have HZ:Hid (grpS t s.data.toList=none):=by
     show _=_
     rw[HF.out,HR.out,HS.out,HN0.out,HS1.out]
     rfl
    clear hv
    go_wp2_with fail
    refine (CN.out _).mono ?_
    rintro e w' ⟨rfl,rfl⟩
    simp only[numZ]
    go_wp2_with fail
    go_ret2
    exact ⟨⟨_,acc,by rw[HZ.out];rfl,o2,by omega,fun gs h=>by rw[HZ.out]at h;cases h⟩,B2⟩
   |some v=>
    have hvl:=g16_lt hv
    rw[hv]at CN HS1
    have HG:Hid (grp t (fs.map toL)=(grp t ((fs.drop (k+1)).map toL)).map ((acc++[v])++ ·)):=by
     show _=_
     rw[HR.out,HS.out,HN0.out,HS1.out]
     simp only
     cases grp t ((fs.drop (k+1)).map toL)<;>simp
    clear hv
    obtain ⟨x,hx⟩: ∃x:Int,(v:Int)=x:=⟨_,rfl⟩
    have HX:Hid ((v:Int)=x):=hx
    have hx0: ¬x<0:=by omega
    clear hx hvl
    go_wp2_with fail
    refine (CN.out _).mono ?_
    rintro e w' ⟨rfl,rfl⟩
    simp only[numZ]
    rw[HX.out]
    go_wp2_with (at_builtin;refine wpList_append_newAt _ rfl _ _ 109 rfl w.heap.size 3 (.int .i64 0) 8 Tryz.underlying109 Tryz.infoI5 rfl _ _ _ rfl o2 #[.int .i64 x] 1 rfl rfl (by intro u hu;simp at hu;subst hu;rfl) (by omega) (by unfold maxLen;omega) z2 ?_)
    intro v' w1 ow' gr hat
    have R:w1.ownsRow w.heap.size 3 1 v' (acc++[v]).length (icells (toI (acc++[v]))):=by
     rw[toI_snoc,HX.out,icells_snoc,List.length_append]
     exact ow'
    have B3:Below w.heap.size w w1:=B2.grown gr z2 (fun k hk=>(o2.lt k hk).1)
    have hgw:w1.heap[g]? =wb.heap[g]? :=gr.block g hgl2 hne
    have C1:Hid (∀j,j<fs.length→w1.cell? ⟨g,j,none⟩=some (.string (fs.getD j ByteArray.empty))):=fun j hj=>
     (World.cell?_of_block (w:=wb) (a:=⟨g,j,none⟩) hgw).trans (HC2.out j hj)
    have hne1:some g≠v'.ownBlock:=by
     rcases hat with h|h
     ·rw[h];exact hne
     rw[h];intro h2;cases h2;omega
    have hgl1:g<w1.heap.size:=Nat.lt_of_lt_of_le hgl2 gr.size
    clear o2 ow' gr hat B2 hgw HC2
    go_wp2_with fail
    go_roundw
    case rel=>exact ⟨k+1,acc++[v],by omega,by go_num,by rw[List.length_append];simp;omega,HG.out,R,C1.out,hne1,hgl1,B3⟩
    case measure=>simp[intOf];omega
  |some n=>
   have hn4:=(p4_some hp4).1
   by_cases hit:t=true∧k+1=fs.length
   ·obtain ⟨rfl,hk1⟩:=hit
    have HZ:Hid (grpS true s.data.toList=some (acc++[n/65536,n%65536])):=by
     show _=_
     rw[HF.out,HR.out,HS.out,if_pos ⟨rfl,hk1⟩,hp4]
     rfl
    have hkq:((k:Int)==(fs.length:Int)-1)=true:=by simp;omega
    obtain ⟨x,hx⟩: ∃x:Int,(n:Int)=x:=⟨_,rfl⟩
    have HX:Hid ((n:Int)=x):=hx
    have hx0:0≤x:=by omega
    have hx1:x<4294967296:=by omega
    have b2:bits .and .i64 x 65535=x%65536:=i64_low 16 65535 rfl _ (by omega) (by omega) (by decide)
    clear hp4 hn4 hx
    simp only[numA]
    rw[HX.out]
    go_wp2_with (at_builtin;refine wpList_append_new _ rfl _ _ 109 rfl w.heap.size 3 (.int .i64 0) 8 Tryz.underlying109 Tryz.infoI5 rfl _ _ _ rfl o2 #[.int .i64 (x/65536),.int .i64 (x%65536)] 2 rfl rfl (by intro u hu;simp at hu;rcases hu with rfl|rfl<;>rfl) (by omega) (by unfold maxLen;omega) z2 ?_)
    intro v' w1 ow' b3
    have R:w1.ownsRow w.heap.size 3 1 v' (acc++[n/65536,n%65536]).length (icells (toI (acc++[n/65536,n%65536]))):=by
     have e1:((n/65536:Nat):Int)=x/65536:=by have:=HX.out;omega
     have e2:((n%65536:Nat):Int)=x%65536:=by have:=HX.out;omega
     have e3:icells (toI (acc++[n/65536,n%65536]))=icells (toI acc)++[.int .i64 (x/65536),.int .i64 (x%65536)]:=by
      simp only[toI,icells,List.map_append,List.map_cons,List.map_nil,e1,e2]
     rw[e3,List.length_append]
     exact ow'
    have B3:=B2.trans b3
    clear ow' b3 o2 B2
    go_wp2_with fail
    go_ret2
    exact ⟨⟨_,_,by rw[HZ.out];rfl,R,by rw[List.length_append];simp;omega,fun gs h=>by rw[HZ.out]at h;cases h;rfl⟩,B3⟩
   have HN0:Hid ((if t=true∧k+1=fs.length then p4 (toL y)else none)=none):=by
    show _=_
    rw[if_neg hit]
   clear hp4 hn4
   simp only[numA]
   cases t with
   |false=>
    clear hit
    by_cases he:y.size=0
    ·have HZ:Hid (grpS false s.data.toList=none):=by
      show _=_
      rw[HF.out,HR.out,HS.out,HN0.out,g16_nil he]
      rfl
     have hem:=empty_yes he
     clear he
     generalize numZ (numL 16 4 (toL y))=zz at CN
     go_wp2_with fail
     refine (CN.out _).mono ?_
     rintro e w' ⟨rfl,rfl⟩
     go_wp2_with fail
     go_ret2
     exact ⟨⟨_,acc,by rw[HZ.out];rfl,o2,by omega,fun gs h=>by rw[HZ.out]at h;cases h⟩,B2⟩
    have hpy:0<y.size:=by omega
    have hem:=empty_no hpy
    have HS1:Hid (g16 (toL y)=numL 16 4 (toL y)):=g16_num hpy
    clear he
    cases hv:numL 16 4 (toL y)with
    |none=>
     rw[hv]at CN HS1
     have HZ:Hid (grpS false s.data.toList=none):=by
      show _=_
      rw[HF.out,HR.out,HS.out,HN0.out,HS1.out]
      rfl
     clear hv
     go_wp2_with fail
     refine (CN.out _).mono ?_
     rintro e w' ⟨rfl,rfl⟩
     simp only[numZ]
     go_wp2_with fail
     go_ret2
     exact ⟨⟨_,acc,by rw[HZ.out];rfl,o2,by omega,fun gs h=>by rw[HZ.out]at h;cases h⟩,B2⟩
    |some v=>
     have hvl:=g16_lt hv
     rw[hv]at CN HS1
     have HG:Hid (grp false (fs.map toL)=(grp false ((fs.drop (k+1)).map toL)).map ((acc++[v])++ ·)):=by
      show _=_
      rw[HR.out,HS.out,HN0.out,HS1.out]
      simp only
      cases grp false ((fs.drop (k+1)).map toL)<;>simp
     clear hv
     obtain ⟨x,hx⟩: ∃x:Int,(v:Int)=x:=⟨_,rfl⟩
     have HX:Hid ((v:Int)=x):=hx
     have hx0: ¬x<0:=by omega
     clear hx hvl
     go_wp2_with fail
     refine (CN.out _).mono ?_
     rintro e w' ⟨rfl,rfl⟩
     simp only[numZ]
     rw[HX.out]
     go_wp2_with (at_builtin;refine wpList_append_newAt _ rfl _ _ 109 rfl w.heap.size 3 (.int .i64 0) 8 Tryz.underlying109 Tryz.infoI5 rfl _ _ _ rfl o2 #[.int .i64 x] 1 rfl rfl (by intro u hu;simp at hu;subst hu;rfl) (by omega) (by unfold maxLen;omega) z2 ?_)
     intro v' w1 ow' gr hat
     have R:w1.ownsRow w.heap.size 3 1 v' (acc++[v]).length (icells (toI (acc++[v]))):=by
      rw[toI_snoc,HX.out,icells_snoc,List.length_append]
      exact ow'
     have B3:Below w.heap.size w w1:=B2.grown gr z2 (fun k hk=>(o2.lt k hk).1)
     have hgw:w1.heap[g]? =wb.heap[g]? :=gr.block g hgl2 hne
     have C1:Hid (∀j,j<fs.length→w1.cell? ⟨g,j,none⟩=some (.string (fs.getD j ByteArray.empty))):=fun j hj=>
      (World.cell?_of_block (w:=wb) (a:=⟨g,j,none⟩) hgw).trans (HC2.out j hj)
     have hne1:some g≠v'.ownBlock:=by
      rcases hat with h|h
      ·rw[h];exact hne
      rw[h];intro h2;cases h2;omega
     have hgl1:g<w1.heap.size:=Nat.lt_of_lt_of_le hgl2 gr.size
     clear o2 ow' gr hat B2 hgw HC2
     go_wp2_with fail
     go_roundw
     case rel=>exact ⟨k+1,acc++[v],by omega,by go_num,by rw[List.length_append];simp;omega,HG.out,R,C1.out,hne1,hgl1,B3⟩
     case measure=>simp[intOf];omega
   |true=>
    have hkq:((k:Int)==(fs.length:Int)-1)=false:=by
     have h2: ¬k+1=fs.length:=fun h=>hit ⟨rfl,h⟩
     simp
     omega
    clear hit
    by_cases he:y.size=0
    ·have HZ:Hid (grpS true s.data.toList=none):=by
      show _=_
      rw[HF.out,HR.out,HS.out,HN0.out,g16_nil he]
      rfl
     have hem:=empty_yes he
     clear he
     generalize numZ (numL 16 4 (toL y))=zz at CN
     go_wp2_with fail
     refine (CN.out _).mono ?_
     rintro e w' ⟨rfl,rfl⟩
     go_wp2_with fail
     go_ret2
     exact ⟨⟨_,acc,by rw[HZ.out];rfl,o2,by omega,fun gs h=>by rw[HZ.out]at h;cases h⟩,B2⟩
    have hpy:0<y.size:=by omega
    have hem:=empty_no hpy
    have HS1:Hid (g16 (toL y)=numL 16 4 (toL y)):=g16_num hpy
    clear he
    cases hv:numL 16 4 (toL y)with
    |none=>
     rw[hv]at CN HS1
     have HZ:Hid (grpS true s.data.toList=none):=by
      show _=_
      rw[HF.out,HR.out,HS.out,HN0.out,HS1.out]
      rfl
     clear hv
     go_wp2_with fail
     refine (CN.out _).mono ?_
     rintro e w' ⟨rfl,rfl⟩
     simp only[numZ]
     go_wp2_with fail
     go_ret2
     exact ⟨⟨_,acc,by rw[HZ.out];rfl,o2,by omega,fun gs h=>by rw[HZ.out]at h;cases h⟩,B2⟩
    |some v=>
     have hvl:=g16_lt hv
     rw[hv]at CN HS1
     have HG:Hid (grp true (fs.map toL)=(grp true ((fs.drop (k+1)).map toL)).map ((acc++[v])++ ·)):=by
      show _=_
      rw[HR.out,HS.out,HN0.out,HS1.out]
      simp only
      cases grp true ((fs.drop (k+1)).map toL)<;>simp
     clear hv
     obtain ⟨x,hx⟩: ∃x:Int,(v:Int)=x:=⟨_,rfl⟩
     have HX:Hid ((v:Int)=x):=hx
     have hx0: ¬x<0:=by omega
     clear hx hvl
     go_wp2_with fail
     refine (CN.out _).mono ?_
     rintro e w' ⟨rfl,rfl⟩
     simp only[numZ]
     rw[HX.out]
     go_wp2_with (at_builtin;refine wpList_append_newAt _ rfl _ _ 109 rfl w.heap.size 3 (.int .i64 0) 8 Tryz.underlying109 Tryz.infoI5 rfl _ _ _ rfl o2 #[.int .i64 x] 1 rfl rfl (by intro u hu;simp at hu;subst hu;rfl) (by omega) (by unfold maxLen;omega) z2 ?_)
     intro v' w1 ow' gr hat
     have R:w1.ownsRow w.heap.size 3 1 v' (acc++[v]).length (icells (toI (acc++[v]))):=by
      rw[toI_snoc,HX.out,icells_snoc,List.length_append]
      exact ow'
     have B3:Below w.heap.size w w1:=B2.grown gr z2 (fun k hk=>(o2.lt k hk).1)
     have hgw:w1.heap[g]? =wb.heap[g]? :=gr.block g hgl2 hne
     have C1:Hid (∀j,j<fs.length→w1.cell? ⟨g,j,none⟩=some (.string (fs.getD j ByteArray.empty))):=fun j hj=>
      (World.cell?_of_block (w:=wb) (a:=⟨g,j,none⟩) hgw).trans (HC2.out j hj)
     have hne1:some g≠v'.ownBlock:=by
      rcases hat with h|h
      ·rw[h];exact hne
      rw[h];intro h2;cases h2;omega
     have hgl1:g<w1.heap.size:=Nat.lt_of_lt_of_le hgl2 gr.size
     clear o2 ow' gr hat B2 hgw HC2
     go_wp2_with fail
     go_roundw
     case rel=>exact ⟨k+1,acc++[v],by omega,by go_num,by rw[List.length_append];simp;omega,HG.out,R,C1.out,hne1,hgl1,B3⟩
     case measure=>simp[intOf];omega
 have HZ:Hid (grpS t s.data.toList=some acc):=by
  show _=_
  rw[HF.out,HR.out,grp_end t fs k hlt]
  simp
 have hki: ¬(k:Int)<(fs.length:Int):=by omega
 clear hcell HCL
 go_wp2_with fail
 go_ret2
 exact ⟨⟨_,acc,by rw[HZ.out];rfl,ow,by omega,fun gs h=>by rw[HZ.out]at h;cases h;rfl⟩,hbel⟩
def HostCells(w W:World)(k:Int)(s:ByteArray)(n:Int)(x0 x1 x2 x3 x4 x5 x6 x7:Int):Prop:=
 W.cell? ⟨w.heap.size,0,none⟩=some (.int .i64 k)∧W.cell? ⟨w.heap.size,1,none⟩=some (.string s)∧W.cell? ⟨w.heap.size,2,none⟩=some (.int .i64 n)∧
 W.cell? ⟨w.heap.size,3,none⟩=some (.int .i64 x0)∧W.cell? ⟨w.heap.size,4,none⟩=some (.int .i64 x1)∧W.cell? ⟨w.heap.size,5,none⟩=some (.int .i64 x2)∧W.cell? ⟨w.heap.size,6,none⟩=some (.int .i64 x3)∧
 W.cell? ⟨w.heap.size,7,none⟩=some (.int .i64 x4)∧W.cell? ⟨w.heap.size,8,none⟩=some (.int .i64 x5)∧W.cell? ⟨w.heap.size,9,none⟩=some (.int .i64 x6)∧W.cell? ⟨w.heap.size,10,none⟩=some (.int .i64 x7)
theorem host_cells(w W:World)(k:Int)(s:ByteArray)(n:Int)(x0 x1 x2 x3 x4 x5 x6 x7:Int)(t:TypeId)(hb:Below (w.alloc (.cells #[.int .i64 k,.string s,.int .i64 n,.int .i64 x0,.int .i64 x1,.int .i64 x2,.int .i64 x3,.int .i64 x4,.int .i64 x5,.int .i64 x6,.int .i64 x7] t)).heap.size (w.alloc (.cells #[.int .i64 k,.string s,.int .i64 n,.int .i64 x0,.int .i64 x1,.int .i64 x2,.int .i64 x3,.int .i64 x4,.int .i64 x5,.int .i64 x6,.int .i64 x7] t)) W):
  HostCells w W k s n x0 x1 x2 x3 x4 x5 x6 x7:=by
 have key: ∀j v,(#[.int .i64 k,.string s,.int .i64 n,.int .i64 x0,.int .i64 x1,.int .i64 x2,.int .i64 x3,.int .i64 x4,.int .i64 x5,.int .i64 x6,.int .i64 x7]:Array Value)[j]? =some v→W.cell? ⟨w.heap.size,j,none⟩=some v:=fun j v h=>cell_later hb (by rw[World.cell?_alloc_at _ _ _ _ rfl];simpa using h)
 exact ⟨key 0 _ rfl,key 1 _ rfl,key 2 _ rfl,key 3 _ rfl,key 4 _ rfl,key 5 _ rfl,key 6 _ rfl,key 7 _ rfl,key 8 _ rfl,key 9 _ rfl,key 10 _ rfl⟩
theorem host_frozen(w W:World)(cs:Array Value)(t:TypeId)(hb:Below (w.alloc (.cells cs t)).heap.size (w.alloc (.cells cs t)) W): ∀j,W.frozen? ⟨w.heap.size,j,none⟩=false:=
 fun j=>frozen_of_row W _ j _ t ((hb.block _ (by simp)).trans (heap_alloc_new w _))
def RowIs(W:World)(B:Nat)(vs:List Value):Prop:= ∀j v,vs[j]? =some v→W.cell? ⟨B,j,none⟩=some v
theorem RowIs.set{W:World}{B:Nat}{vs:List Value}(h:RowIs W B vs)(j:Nat)(hj:j<vs.length)(x:Value):RowIs (W.setCell ⟨B,j,none⟩ x) B (vs.set j x):=by
 intro i v hv
 by_cases e:j=i
 ·subst e
  rw[World.cell?_setCell_same' _ _ _ (by rw[h j _ (List.getElem?_eq_getElem hj)];rfl)]
  rw[List.getElem?_set_self hj]at hv
  exact hv
 rw[World.cell?_setCell_other _ _ _ _ (fun h=>e (by injection h)),h i v]
 rwa[List.getElem?_set_ne e]at hv
theorem RowIs.other{W:World}{B:Nat}{vs:List Value}(h:RowIs W B vs){C:Nat}(hne:B≠C)(j:Nat)(x:Value):RowIs (W.setCell ⟨C,j,none⟩ x) B vs:=by
 intro i v hv
 rw[World.cell?_setCell_other _ _ _ _ (fun h=>hne (by injection h with h1 _;exact h1.symm))]
 exact h i v hv
def hRow(k:Int)(s:ByteArray)(n:Int)(x0 x1 x2 x3 x4 x5 x6 x7:Int):List Value:=[.int .i64 k,.string s,.int .i64 n,.int .i64 x0,.int .i64 x1,.int .i64 x2,.int .i64 x3,.int .i64 x4,.int .i64 x5,.int .i64 x6,.int .i64 x7]
theorem host_store{W:World}{B:Nat}{k' n':Int}{s':ByteArray}{y0 y1 y2 y3 y4 y5 y6 y7:Int}(h:RowIs W B (hRow k' s' n' y0 y1 y2 y3 y4 y5 y6 y7))(k n:Int)(s:ByteArray)(x0 x1 x2 x3 x4 x5 x6 x7:Int):RowIs (((((((((((W.setCell ⟨B,0,none⟩ (.int .i64 k)).setCell ⟨B,1,none⟩ (.string s)).setCell ⟨B,2,none⟩ (.int .i64 n)).setCell ⟨B,3,none⟩ (.int .i64 x0)).setCell ⟨B,4,none⟩ (.int .i64 x1)).setCell ⟨B,5,none⟩ (.int .i64 x2)).setCell ⟨B,6,none⟩ (.int .i64 x3)).setCell ⟨B,7,none⟩ (.int .i64 x4)).setCell ⟨B,8,none⟩ (.int .i64 x5)).setCell ⟨B,9,none⟩ (.int .i64 x6)).setCell ⟨B,10,none⟩ (.int .i64 x7)) B (hRow k s n x0 x1 x2 x3 x4 x5 x6 x7):=
 ((((((((((h.set 0 (by simp[hRow]) (.int .i64 k)).set 1 (by simp[hRow]) (.string s)).set 2 (by simp[hRow]) (.int .i64 n)).set 3 (by simp[hRow]) (.int .i64 x0)).set 4 (by simp[hRow]) (.int .i64 x1)).set 5 (by simp[hRow]) (.int .i64 x2)).set 6 (by simp[hRow]) (.int .i64 x3)).set 7 (by simp[hRow]) (.int .i64 x4)).set 8 (by simp[hRow]) (.int .i64 x5)).set 9 (by simp[hRow]) (.int .i64 x6)).set 10 (by simp[hRow]) (.int .i64 x7)
theorem below_hstore{m:Nat}{w W:World}(h:Below m w W){B:Nat}(hB:m≤B)(k n:Int)(s:ByteArray)(x0 x1 x2 x3 x4 x5 x6 x7:Int):Below m w (((((((((((W.setCell ⟨B,0,none⟩ (.int .i64 k)).setCell ⟨B,1,none⟩ (.string s)).setCell ⟨B,2,none⟩ (.int .i64 n)).setCell ⟨B,3,none⟩ (.int .i64 x0)).setCell ⟨B,4,none⟩ (.int .i64 x1)).setCell ⟨B,5,none⟩ (.int .i64 x2)).setCell ⟨B,6,none⟩ (.int .i64 x3)).setCell ⟨B,7,none⟩ (.int .i64 x4)).setCell ⟨B,8,none⟩ (.int .i64 x5)).setCell ⟨B,9,none⟩ (.int .i64 x6)).setCell ⟨B,10,none⟩ (.int .i64 x7)):=by
 have st: ∀(U:World) (j:Nat) (x:Value),Below m w U→Below m w (U.setCell ⟨B,j,none⟩ x):=fun U j x hU=>hU.setCell (p:=⟨B,j,none⟩) hB _
 exact st _ _ _ (st _ _ _ (st _ _ _ (st _ _ _ (st _ _ _ (st _ _ _ (st _ _ _ (st _ _ _ (st _ _ _ (st _ _ _ (st _ _ _ h))))))))))
theorem host_result1{fn:Func}{p:Tmp}(h:fn.results= #[.cell p 27])(tmps:Array Value)(W:World)(B:Nat)(k n:Int)(s:ByteArray)(x0 x1 x2 x3 x4 x5 x6 x7:Int)
  (hp:tmps[p]?.getD undef=.pointer (some ⟨B,0,none⟩)) (ha:RowIs W B (hRow k s n x0 x1 x2 x3 x4 x5 x6 x7)):
  (results fn tmps).run Tryz.prog W=.ok (.agg #[.int .i64 k,.string s,.int .i64 n,.int .i64 x0,.int .i64 x1,.int .i64 x2,.int .i64 x3,.int .i64 x4,.int .i64 x5,.int .i64 x6,.int .i64 x7]) W:=by
 have c0:=ha 0 _ rfl
 have c1:=ha 1 _ rfl
 have c2:=ha 2 _ rfl
 have c3:=ha 3 _ rfl
 have c4:=ha 4 _ rfl
 have c5:=ha 5 _ rfl
 have c6:=ha 6 _ rfl
 have c7:=ha 7 _ rfl
 have c8:=ha 8 _ rfl
 have c9:=ha 9 _ rfl
 have c10:=ha 10 _ rfl
 simp[results,h,hp,asAddr,go_sem,c0,c1,c2,c3,c4,c5,c6,c7,c8,c9,c10,Addr.add_lit]
theorem host_result2{fn:Func}{p q:Tmp}(h:fn.results= #[.cell p 27,.tmp q])(tmps:Array Value)(W:World)(B:Nat)(v:Value)(k n:Int)(s:ByteArray)(x0 x1 x2 x3 x4 x5 x6 x7:Int)
  (hp:tmps[p]?.getD undef=.pointer (some ⟨B,0,none⟩)) (hq:tmps[q]?.getD undef=v) (ha:RowIs W B (hRow k s n x0 x1 x2 x3 x4 x5 x6 x7)):
  (results fn tmps).run Tryz.prog W=.ok (.tuple #[.agg #[.int .i64 k,.string s,.int .i64 n,.int .i64 x0,.int .i64 x1,.int .i64 x2,.int .i64 x3,.int .i64 x4,.int .i64 x5,.int .i64 x6,.int .i64 x7],v]) W:=by
 have c0:=ha 0 _ rfl
 have c1:=ha 1 _ rfl
 have c2:=ha 2 _ rfl
 have c3:=ha 3 _ rfl
 have c4:=ha 4 _ rfl
 have c5:=ha 5 _ rfl
 have c6:=ha 6 _ rfl
 have c7:=ha 7 _ rfl
 have c8:=ha 8 _ rfl
 have c9:=ha 9 _ rfl
 have c10:=ha 10 _ rfl
 simp[results,h,hp,hq,asAddr,go_sem,c0,c1,c2,c3,c4,c5,c6,c7,c8,c9,c10,Addr.add_lit]
theorem implWithin1(n:Int)(s:ByteArray)(x0 x1 x2 x3 x4 x5 x6 x7:Int)(w:World):
  Calls Tryz.prog 24 #[.agg #[.int .i64 1,.string s,.int .i64 n,.int .i64 x0,.int .i64 x1,.int .i64 x2,.int .i64 x3,.int .i64 x4,.int .i64 x5,.int .i64 x6,.int .i64 x7]] w fun e w'=>e=.returned (.iface 89 (.string s))∧Below w.heap.size w w':=by
 go_enter Tryz.func24,Tryz.ntmps24
 go_wp2
 go_ret
 exact ⟨rfl,(Below.refl _ _).alloc (Nat.le_refl _) _⟩
theorem implWithin2(n:Int)(s:ByteArray)(x0 x1 x2 x3 x4 x5 x6 x7:Int)(w:World):
  Calls Tryz.prog 24 #[.agg #[.int .i64 2,.string s,.int .i64 n,.int .i64 x0,.int .i64 x1,.int .i64 x2,.int .i64 x3,.int .i64 x4,.int .i64 x5,.int .i64 x6,.int .i64 x7]] w fun e w'=>e=.returned (.iface 91 (.int .i64 n))∧Below w.heap.size w w':=by
 go_enter Tryz.func24,Tryz.ntmps24
 go_wp2
 go_ret
 exact ⟨rfl,(Below.refl _ _).alloc (Nat.le_refl _) _⟩
theorem implWithin3(n:Int)(s:ByteArray)(x0 x1 x2 x3 x4 x5 x6 x7:Int)(w:World):
  Calls Tryz.prog 24 #[.agg #[.int .i64 3,.string s,.int .i64 n,.int .i64 x0,.int .i64 x1,.int .i64 x2,.int .i64 x3,.int .i64 x4,.int .i64 x5,.int .i64 x6,.int .i64 x7]] w fun e w'=>e=.returned (.iface 93 (.agg #[.int .i64 x0,.int .i64 x1,.int .i64 x2,.int .i64 x3,.int .i64 x4,.int .i64 x5,.int .i64 x6,.int .i64 x7]))∧Below w.heap.size w w':=by
 go_enter Tryz.func24,Tryz.ntmps24
 go_wp2
 go_ret
 exact ⟨rfl,(Below.refl _ _).alloc (Nat.le_refl _) _⟩
theorem implWithin0(k n:Int)(s:ByteArray)(x0 x1 x2 x3 x4 x5 x6 x7:Int)(w:World)(h1: ¬k=1)(h2: ¬k=2)(h3: ¬k=3):
  Calls Tryz.prog 24 #[.agg #[.int .i64 k,.string s,.int .i64 n,.int .i64 x0,.int .i64 x1,.int .i64 x2,.int .i64 x3,.int .i64 x4,.int .i64 x5,.int .i64 x6,.int .i64 x7]] w fun e w'=>e=.returned .nilIface∧Below w.heap.size w w':=by
 have q1:(k==1)=false:=beq_eq_false_iff_ne.2 h1
 have q2:(k==2)=false:=beq_eq_false_iff_ne.2 h2
 have q3:(k==3)=false:=beq_eq_false_iff_ne.2 h3
 clear h1 h2 h3
 go_enter Tryz.func24,Tryz.ntmps24
 go_wp2
 go_ret
 exact ⟨rfl,(Below.refl _ _).alloc (Nat.le_refl _) _⟩
theorem ta11(s:ByteArray)(W:World):(Instr.typeAssert (.iface 89 (.string s)) 54 89 true).run Tryz.prog W=.ok (.tuple #[.string s,.bool true]) W:=by kernel_rfl
theorem ta21(n:Int)(W:World):(Instr.typeAssert (.iface 91 (.int .i64 n)) 54 89 true).run Tryz.prog W=.ok (.tuple #[.string ⟨#[]⟩,.bool false]) W:=by kernel_rfl
theorem ta22(n:Int)(W:World):(Instr.typeAssert (.iface 91 (.int .i64 n)) 54 91 true).run Tryz.prog W=.ok (.tuple #[.int .i64 n,.bool true]) W:=by kernel_rfl
theorem ta31(v:Value)(W:World):(Instr.typeAssert (.iface 93 v) 54 89 true).run Tryz.prog W=.ok (.tuple #[.string ⟨#[]⟩,.bool false]) W:=by kernel_rfl
theorem ta32(v:Value)(W:World):(Instr.typeAssert (.iface 93 v) 54 91 true).run Tryz.prog W=.ok (.tuple #[.int .i64 0,.bool false]) W:=by kernel_rfl
theorem ta33(v:Value)(W:World):(Instr.typeAssert (.iface 93 v) 54 93 true).run Tryz.prog W=.ok (.tuple #[v,.bool true]) W:=by kernel_rfl
theorem implOutside1(s:ByteArray)(w:World):
  Calls Tryz.prog 48 #[.iface 89 (.string s)] w fun e w'=>e=.returned (.agg #[.int .i64 1,.string s,.int .i64 0,.int .i64 0,.int .i64 0,.int .i64 0,.int .i64 0,.int .i64 0,.int .i64 0,.int .i64 0,.int .i64 0])∧Below w.heap.size w w':=by
 have t1:=ta11 s
 go_enter Tryz.func48,Tryz.ntmps48
 go_wp2
 go_returns
 exact ⟨rfl,by go_grown⟩
theorem implOutside2(n:Int)(w:World):
  Calls Tryz.prog 48 #[.iface 91 (.int .i64 n)] w fun e w'=>e=.returned (.agg #[.int .i64 2,.string ⟨#[]⟩,.int .i64 n,.int .i64 0,.int .i64 0,.int .i64 0,.int .i64 0,.int .i64 0,.int .i64 0,.int .i64 0,.int .i64 0])∧Below w.heap.size w w':=by
 have t1:=ta21 n
 have t2:=ta22 n
 go_enter Tryz.func48,Tryz.ntmps48
 go_wp2
 go_returns
 exact ⟨rfl,by go_grown⟩
theorem implOutside3(x0 x1 x2 x3 x4 x5 x6 x7:Int)(w:World):
  Calls Tryz.prog 48 #[.iface 93 (.agg #[.int .i64 x0,.int .i64 x1,.int .i64 x2,.int .i64 x3,.int .i64 x4,.int .i64 x5,.int .i64 x6,.int .i64 x7])] w fun e w'=>e=.returned (.agg #[.int .i64 3,.string ⟨#[]⟩,.int .i64 0,.int .i64 x0,.int .i64 x1,.int .i64 x2,.int .i64 x3,.int .i64 x4,.int .i64 x5,.int .i64 x6,.int .i64 x7])∧Below w.heap.size w w':=by
 have t1:=ta31 (.agg #[.int .i64 x0,.int .i64 x1,.int .i64 x2,.int .i64 x3,.int .i64 x4,.int .i64 x5,.int .i64 x6,.int .i64 x7])
 have t2:=ta32 (.agg #[.int .i64 x0,.int .i64 x1,.int .i64 x2,.int .i64 x3,.int .i64 x4,.int .i64 x5,.int .i64 x6,.int .i64 x7])
 have t3:=ta33 (.agg #[.int .i64 x0,.int .i64 x1,.int .i64 x2,.int .i64 x3,.int .i64 x4,.int .i64 x5,.int .i64 x6,.int .i64 x7])
 go_enter Tryz.func48,Tryz.ntmps48
 go_wp2
 go_returns
 exact ⟨rfl,by go_grown⟩

theorem eq_int(d:Nat)(x y:Int)(W:World):(Op.equalIn (d+1) 3 (.int .i64 x) (.int .i64 y)).run Tryz.prog W=.ok (x==y) W:=run_equalIn_int W d 3 .i64 .i64 x y Tryz.underlying3
theorem eq_str(d:Nat)(x y:ByteArray)(W:World):(Op.equalIn (d+1) 9 (.string x) (.string y)).run Tryz.prog W=.ok (x.toList==y.toList) W:=run_equalIn_string W d 9 x y Tryz.underlying9
def eqB(z y:List Int):Bool:=decide (z=y)
theorem items_run(d:Nat)(xs ys:Array Value)(W:World)(zx zy:Nat→Int): ∀(js:List Nat),
  (∀j∈js,(part 3 xs (j*1)).run Tryz.prog W=.ok (.int .i64 (zx j)) W)→(∀j∈js,(part 3 ys (j*1)).run Tryz.prog W=.ok (.int .i64 (zy j)) W)→
  (Op.eqItems (d+1) 3 1 xs ys js).run Tryz.prog W=.ok (js.all fun j=>zx j==zy j) W
 |[],_,_=>by simp[Op.eqItems]
 |j::js,hx,hy=>by
  have ih:=items_run d xs ys W zx zy js (fun i hi=>hx i (List.mem_cons_of_mem _ hi)) (fun i hi=>hy i (List.mem_cons_of_mem _ hi))
  simp only[Op.eqItems,Sem.run_bind,hx j List.mem_cons_self,hy j List.mem_cons_self,Result.andThen_ok,eq_int]
  cases h:(zx j==zy j)with
  |false=>simp[h]
  |true=>simp[h,ih]
theorem part_at(x0 x1 x2 x3 x4 x5 x6 x7:Int)(W:World): ∀j∈[0,1,2,3,4,5,6,7],(part 3 #[.int .i64 x0,.int .i64 x1,.int .i64 x2,.int .i64 x3,.int .i64 x4,.int .i64 x5,.int .i64 x6,.int .i64 x7] (j*1)).run Tryz.prog W=.ok (.int .i64 ([x0,x1,x2,x3,x4,x5,x6,x7].getD j 0)) W:=by
 intro j hj
 simp only[List.mem_cons,List.not_mem_nil,or_false]at hj
 rcases hj with rfl|rfl|rfl|rfl|rfl|rfl|rfl|rfl<;>simp[part,Tryz.isAgg3,go_sem]
theorem all_eq(x0 x1 x2 x3 x4 x5 x6 x7 y0 y1 y2 y3 y4 y5 y6 y7:Int):([0,1,2,3,4,5,6,7].all fun j=>[x0,x1,x2,x3,x4,x5,x6,x7].getD j 0==[y0,y1,y2,y3,y4,y5,y6,y7].getD j 0)=eqB [x0,x1,x2,x3,x4,x5,x6,x7] [y0,y1,y2,y3,y4,y5,y6,y7]:=by
 unfold eqB
 rw[Bool.eq_iff_iff,decide_eq_true_eq,List.all_eq_true]
 constructor
 ·intro h
  have e: ∀j,j∈[0,1,2,3,4,5,6,7]→[x0,x1,x2,x3,x4,x5,x6,x7].getD j 0=[y0,y1,y2,y3,y4,y5,y6,y7].getD j 0:=fun j hj=>by simpa using h j hj
  have e0:x0=y0:=e 0 (by simp)
  have e1:x1=y1:=e 1 (by simp)
  have e2:x2=y2:=e 2 (by simp)
  have e3:x3=y3:=e 3 (by simp)
  have e4:x4=y4:=e 4 (by simp)
  have e5:x5=y5:=e 5 (by simp)
  have e6:x6=y6:=e 6 (by simp)
  have e7:x7=y7:=e 7 (by simp)
  rw[e0,e1,e2,e3,e4,e5,e6,e7]
 intro h j _
 rw[h]
 simp
theorem eqA(d:Nat)(x0 x1 x2 x3 x4 x5 x6 x7 y0 y1 y2 y3 y4 y5 y6 y7:Int)(W:World):
  (Op.equalIn (d+2) 25 (.agg #[.int .i64 x0,.int .i64 x1,.int .i64 x2,.int .i64 x3,.int .i64 x4,.int .i64 x5,.int .i64 x6,.int .i64 x7]) (.agg #[.int .i64 y0,.int .i64 y1,.int .i64 y2,.int .i64 y3,.int .i64 y4,.int .i64 y5,.int .i64 y6,.int .i64 y7])).run Tryz.prog W=.ok (eqB [x0,x1,x2,x3,x4,x5,x6,x7] [y0,y1,y2,y3,y4,y5,y6,y7]) W:=by
 obtain ⟨i0,hi,hz0,hz1,hz2⟩:=info_parts Tryz.infoI5
 rw[run_equalIn_array W (d+1) _ _ Tryz.underlying25 hi,show Tryz.prog.cellsOf 3=1 by kernel_rfl,show List.range 8=[0,1,2,3,4,5,6,7] from rfl,
  items_run d _ _ W (fun j=>[x0,x1,x2,x3,x4,x5,x6,x7].getD j 0) (fun j=>[y0,y1,y2,y3,y4,y5,y6,y7].getD j 0) _ (part_at x0 x1 x2 x3 x4 x5 x6 x7 W) (part_at y0 y1 y2 y3 y4 y5 y6 y7 W),all_eq x0 x1 x2 x3 x4 x5 x6 x7 y0 y1 y2 y3 y4 y5 y6 y7]
def eqHB(k:Int)(s:ByteArray)(n:Int)(z:List Int)(k':Int)(s':ByteArray)(n':Int)(z':List Int):Bool:=(k==k')&&((s.toList==s'.toList)&&((n==n')&&eqB z z'))
theorem host_fields:((Tryz.prog.fieldsOf 27).toList.map fun f=>(f.type,f.offset,decide (f.name≠ "_")))=[(3,0,true),(9,1,true),(3,2,true),(25,3,true)]:=by kernel_rfl
theorem fields_step(d:Nat)(f:Field)(fs:List Field)(xs ys:Array Value)(a b:Value)(r:Bool)(W:World)(hn:f.name≠ "_")(h1:(part f.type xs f.offset).run Tryz.prog W=.ok a W)(h2:(part f.type ys f.offset).run Tryz.prog W=.ok b W)(h3:(Op.equalIn d f.type a b).run Tryz.prog W=.ok r W):
  (Op.eqFields d xs ys (f::fs)).run Tryz.prog W=if r=true then (Op.eqFields d xs ys fs).run Tryz.prog W else .ok false W:=by
 simp only[Op.eqFields,hn,ne_eq,not_false_eq_true,if_true,Sem.run_bind,h1,h2,h3,Result.andThen_ok]
 cases r<;>simp
theorem part0(k n:Int)(s:ByteArray)(x0 x1 x2 x3 x4 x5 x6 x7:Int)(W:World):(part 3 #[.int .i64 k,.string s,.int .i64 n,.int .i64 x0,.int .i64 x1,.int .i64 x2,.int .i64 x3,.int .i64 x4,.int .i64 x5,.int .i64 x6,.int .i64 x7] 0).run Tryz.prog W=.ok (.int .i64 k) W:=by kernel_rfl
theorem part1(k n:Int)(s:ByteArray)(x0 x1 x2 x3 x4 x5 x6 x7:Int)(W:World):(part 9 #[.int .i64 k,.string s,.int .i64 n,.int .i64 x0,.int .i64 x1,.int .i64 x2,.int .i64 x3,.int .i64 x4,.int .i64 x5,.int .i64 x6,.int .i64 x7] 1).run Tryz.prog W=.ok (.string s) W:=by kernel_rfl
theorem part2(k n:Int)(s:ByteArray)(x0 x1 x2 x3 x4 x5 x6 x7:Int)(W:World):(part 3 #[.int .i64 k,.string s,.int .i64 n,.int .i64 x0,.int .i64 x1,.int .i64 x2,.int .i64 x3,.int .i64 x4,.int .i64 x5,.int .i64 x6,.int .i64 x7] 2).run Tryz.prog W=.ok (.int .i64 n) W:=by kernel_rfl
theorem part3(k n:Int)(s:ByteArray)(x0 x1 x2 x3 x4 x5 x6 x7:Int)(W:World):(part 25 #[.int .i64 k,.string s,.int .i64 n,.int .i64 x0,.int .i64 x1,.int .i64 x2,.int .i64 x3,.int .i64 x4,.int .i64 x5,.int .i64 x6,.int .i64 x7] 3).run Tryz.prog W=.ok (.agg #[.int .i64 x0,.int .i64 x1,.int .i64 x2,.int .i64 x3,.int .i64 x4,.int .i64 x5,.int .i64 x6,.int .i64 x7]) W:=by kernel_rfl
theorem eqH(k:Int)(s:ByteArray)(n:Int)(x0 x1 x2 x3 x4 x5 x6 x7:Int)(k':Int)(s':ByteArray)(n':Int)(y0 y1 y2 y3 y4 y5 y6 y7:Int)(W:World):
  (Op.equalIn 10000 27 (.agg #[.int .i64 k,.string s,.int .i64 n,.int .i64 x0,.int .i64 x1,.int .i64 x2,.int .i64 x3,.int .i64 x4,.int .i64 x5,.int .i64 x6,.int .i64 x7]) (.agg #[.int .i64 k',.string s',.int .i64 n',.int .i64 y0,.int .i64 y1,.int .i64 y2,.int .i64 y3,.int .i64 y4,.int .i64 y5,.int .i64 y6,.int .i64 y7])).run Tryz.prog W=.ok (eqHB k s n [x0,x1,x2,x3,x4,x5,x6,x7] k' s' n' [y0,y1,y2,y3,y4,y5,y6,y7]) W:=by
 rw[show (10000:Nat)=9999+1 from rfl,run_equalIn_struct W 9999 27 _ _ (by kernel_rfl) (by kernel_rfl)]
 have hf:=host_fields
 generalize (Tryz.prog.fieldsOf 27).toList=fs at hf
 obtain ⟨f0,r0,rfl,e0,hf⟩:=List.map_eq_cons_iff.1 hf
 obtain ⟨f1,r1,rfl,e1,hf⟩:=List.map_eq_cons_iff.1 hf
 obtain ⟨f2,r2,rfl,e2,hf⟩:=List.map_eq_cons_iff.1 hf
 obtain ⟨f3,r3,rfl,e3,hf⟩:=List.map_eq_cons_iff.1 hf
 obtain rfl:=List.map_eq_nil_iff.1 hf
 simp only[Prod.mk.injEq,decide_eq_true_eq]at e0 e1 e2 e3
 obtain ⟨a0,a1,a2⟩:=e0
 obtain ⟨b0,b1,b2⟩:=e1
 obtain ⟨c0,c1,c2⟩:=e2
 obtain ⟨d0,d1,d2⟩:=e3
 rw[fields_step 9999 f0 _ _ _ (.int .i64 k) (.int .i64 k') (k==k') W a2 (by rw[a0,a1];exact part0 ..) (by rw[a0,a1];exact part0 ..) (by rw[a0];exact eq_int 9998 ..),
  fields_step 9999 f1 _ _ _ (.string s) (.string s') (s.toList==s'.toList) W b2 (by rw[b0,b1];exact part1 ..) (by rw[b0,b1];exact part1 ..) (by rw[b0];exact eq_str 9998 ..),
  fields_step 9999 f2 _ _ _ (.int .i64 n) (.int .i64 n') (n==n') W c2 (by rw[c0,c1];exact part2 ..) (by rw[c0,c1];exact part2 ..) (by rw[c0];exact eq_int 9998 ..),
  fields_step 9999 f3 _ _ _ (.agg #[.int .i64 x0,.int .i64 x1,.int .i64 x2,.int .i64 x3,.int .i64 x4,.int .i64 x5,.int .i64 x6,.int .i64 x7]) (.agg #[.int .i64 y0,.int .i64 y1,.int .i64 y2,.int .i64 y3,.int .i64 y4,.int .i64 y5,.int .i64 y6,.int .i64 y7]) (eqB [x0,x1,x2,x3,x4,x5,x6,x7] [y0,y1,y2,y3,y4,y5,y6,y7]) W d2 (by rw[d0,d1];exact part3 ..) (by rw[d0,d1];exact part3 ..) (by rw[d0];exact eqA 9997 ..)]
 unfold eqHB
 cases (k==k')<;>cases (s.toList==s'.toList)<;>cases (n==n')<;>cases (eqB [x0,x1,x2,x3,x4,x5,x6,x7] [y0,y1,y2,y3,y4,y5,y6,y7])<;>rfl
end Go.Proofs.YtijliddchoehhaaGreatDoor
