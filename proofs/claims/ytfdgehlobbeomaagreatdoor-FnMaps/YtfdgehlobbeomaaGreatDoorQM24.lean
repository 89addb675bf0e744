/- BalImpl, RobPlain, RobRow, RobSz, EntSz, EntLaw, StrEq. -/
import Derived.Test.YtfdgehlobbeomaaGreatDoorQM12
import Derived.Deep.RegionWith
set_option maxHeartbeats 4000000
set_option maxRecDepth 100000
namespace Go.Proofs.YtfdgehlobbeomaaGreatDoor
open Go.RowKit
set_option linter.unusedVariables false
theorem implBalanced(l:List TV)(v:Value)(w:World)(hl:l.length≤1073741824)(h:TokRow w v l):
  Calls Tryz.prog 60 #[v] w fun e w'=>e=.returned (.bool (balL l))∧Below w.heap.size w w':=by
 rcases h with ⟨rfl,ao,cap,rfl⟩|⟨h0,g,off,cap,rfl,hg,hc⟩
 ·go_enter Tryz.func60,Tryz.ntmps60
  go_wp2
  refine wp_loop_rounds 1 ?_
  rw[rounds_succ]
  go_wp2
  go_ret
  exact ⟨rfl,(Below.refl _ _).alloc (Nat.le_refl _) _⟩
 have HC:Hid (∀i,i<l.length→w.cell? ⟨g,off+i*2,none⟩=some (.int .i64 (l.getD i tv0).k)∧w.cell? ⟨g,off+i*2+1,none⟩=some (.string (l.getD i tv0).s)):=hc
 clear hc
 go_enter Tryz.func60,Tryz.ntmps60
 go_wp2
 go_loopw[3,10] (fun v i wr=> ∃(k n gs cs:Nat) (st:List ByteArray),k≤l.length∧i=.int .i64 k∧n≤k∧v=.slice (some ⟨gs,0,none⟩) n cs∧Hid (st.length=n)∧Hid (wr.ownsRow w.heap.size 9 1 (.slice (some ⟨gs,0,none⟩) n cs) n (scells st.reverse))∧Hid (balS st (l.drop k)=balL l)∧Below w.heap.size w wr) (fun _ i _=>l.length-(intOf i).toNat)
 case atStart=>exact ⟨0,0,_,_,[],Nat.zero_le _,rfl,Nat.le_refl _,rfl,rfl,World.ownsRow_lit w #[] 0 (Nat.le_refl _) (by decide) rfl,rfl,(Below.refl _ _).alloc (Nat.le_refl _) _⟩
 obtain ⟨k,n,gs,cs,st,hk,rfl,hnk,rfl,HL,HO,HB,hbel⟩:=hrel
 by_cases hlt:k<l.length
 ·have hki:(k:Int)<l.length:=by omega
  obtain ⟨c1,c2⟩:=HC.out k hlt
  have c1w:=(hbel.cell (p:=⟨g,off+k*2,none⟩) hg).trans c1
  have c2w:=(hbel.cell (p:=⟨g,off+k*2+1,none⟩) hg).trans c2
  have hb:=HB.out
  rw[tok_drop hlt]at hb
  obtain ⟨t,ht⟩: ∃t,l.getD k tv0=t:=⟨_,rfl⟩
  rw[ht]at hb c1w c2w
  clear ht c1 c2 HB
  have hcap:=own_cap HO.out
  by_cases h1:t.k=1
  ·rw[bal_open h1]at hb
   have HB2:Hid (balS (t.s::st) (l.drop (k+1))=balL l):=hb
   rw[h1]at c1w
   clear hb h1
   generalize t.s=ts at*
   obtain ⟨U,hU⟩: ∃U,U=wr.alloc (.cells #[.int .i64 1,.string ts] 74):=⟨_,rfl⟩
   have bU:Below wr.heap.size wr U:=by rw[hU];exact (Below.refl _ _).alloc (Nat.le_refl _) _
   have AU:BAt U wr.heap.size [.int .i64 1,.string ts]:=by rw[hU];exact BAt.new wr #[.int .i64 1,.string ts] _
   have BU:Below w.heap.size w U:=hbel.trans (bU.mono hbel.size)
   have OU:Hid (U.ownsRow w.heap.size 9 1 (.slice (some ⟨gs,0,none⟩) n cs) n (scells st.reverse)):=own_below HO.out bU
   go_upto_region 5 with fail
   rw[←hU]
   clear hU
   have d0:=AU.1 0 _ rfl
   have d1:=AU.1 1 _ rfl
   have hD:=AU.2.2
   clear c1w c2w bU AU hbel HO
   generalize wr.heap.size=D at*
   have hsU:=BU.size
   have hown:=OU.out
   go_wp2_with (at_builtin;refine wpList_append_new _ rfl _ _ 64 rfl w.heap.size 9 (.string ⟨#[]⟩) 16 Tryz.underlying64 Tryz.infoStr rfl _ _ _ rfl hown #[.string ts] 1 rfl rfl (str_one _) (by omega) (by unfold maxLen;omega) (by omega) ?_)
   intro v' w1 o1 b1
   obtain ⟨gv,cv,rfl⟩: ∃gv cv,v'=.slice (some ⟨gv,0,none⟩) (n+1) cv:=by
    rcases o1.2 with ⟨_,h2⟩|⟨g2,cap2,cur,rfl,_⟩
    ·omega
    exact ⟨g2,cap2,rfl⟩
   have O1:Hid (w1.ownsRow w.heap.size 9 1 (.slice (some ⟨gv,0,none⟩) (n+1) cv) (n+1) (scells (ts::st).reverse)):=by
    show World.ownsRow _ _ _ _ _ _ _
    rw[List.reverse_cons]
    unfold scells at o1⊢
    rw[List.map_append]
    exact o1
   have B1:=BU.trans b1
   have HL1:Hid ((ts::st).length=n+1):=by show _=_;rw[List.length_cons,HL.out]
   clear o1 b1 hown BU d0 d1 hD
   go_wp2_with fail
   go_roundw
   case rel=>exact ⟨k+1,n+1,gv,cv,ts::st,by omega,by go_num,by omega,by go_num,HL1,O1,HB2,B1⟩
   case measure=>simp[intOf]<;>omega
  have h1i:(t.k==1)=false:=beq_eq_false_iff_ne.2 h1
  by_cases h2:t.k=2
  ·rw[h2]at c1w
   clear h1 h1i
   cases st with
   |nil=>
    have hn0:n=0:=HL.out.symm
    subst hn0
    rw[bal_none h2]at hb
    have HF:Hid (balL l=false):=hb.symm
    clear hb h2
    generalize t.s=ts at*
    obtain ⟨U,hU⟩: ∃U,U=wr.alloc (.cells #[.int .i64 2,.string ts] 74):=⟨_,rfl⟩
    have bU:Below wr.heap.size wr U:=by rw[hU];exact (Below.refl _ _).alloc (Nat.le_refl _) _
    have AU:BAt U wr.heap.size [.int .i64 2,.string ts]:=by rw[hU];exact BAt.new wr #[.int .i64 2,.string ts] _
    have BU:Below w.heap.size w U:=hbel.trans (bU.mono hbel.size)
    have OU:Hid (U.ownsRow w.heap.size 9 1 (.slice (some ⟨gs,0,none⟩) 0 cs) 0 (scells [].reverse)):=own_below HO.out bU
    go_upto_region 5 with fail
    rw[←hU]
    clear hU
    have d0:=AU.1 0 _ rfl
    have d1:=AU.1 1 _ rfl
    have hD:=AU.2.2
    clear c1w c2w bU AU hbel HO
    generalize wr.heap.size=D at*
    have hsU:=BU.size
    go_wp2_with fail
    go_quiet (fail)
    go_wp2_with fail
    go_ret
    exact ⟨ret_bool HF.out.symm,below_drewN BU _⟩
   |cons x st'=>
    obtain ⟨m,rfl⟩: ∃m,n=m+1:=⟨st'.length,by rw[←HL.out];rfl⟩
    have hm:st'.length=m:=by have:=HL.out;simpa using this
    rw[bal_close h2]at hb
    have hx:(x::st').reverse.getD m ByteArray.empty=x:=by
     rw[List.reverse_cons,List.getD_eq_getElem?_getD,List.getElem?_append_right (by rw[List.length_reverse];omega),List.length_reverse,hm,Nat.sub_self]
     rfl
    have HX:Hid ((x::st').reverse.getD m ByteArray.empty=x):=hx
    clear hx h2
    by_cases he:x=t.s
    ·rw[if_pos he]at hb
     have HB2:Hid (balS st' (l.drop (k+1))=balL l):=hb
     rw[←he]at c2w
     have HL2:Hid (st'.length=m):=hm
     clear hb he HL
     obtain ⟨U,hU⟩: ∃U,U=wr.alloc (.cells #[.int .i64 2,.string x] 74):=⟨_,rfl⟩
     have bU:Below wr.heap.size wr U:=by rw[hU];exact (Below.refl _ _).alloc (Nat.le_refl _) _
     have AU:BAt U wr.heap.size [.int .i64 2,.string x]:=by rw[hU];exact BAt.new wr #[.int .i64 2,.string x] _
     have BU:Below w.heap.size w U:=hbel.trans (bU.mono hbel.size)
     have OU:Hid (U.ownsRow w.heap.size 9 1 (.slice (some ⟨gs,0,none⟩) (m+1) cs) (m+1) (scells (x::st').reverse)):=own_below HO.out bU
     go_upto_region 5 with fail
     rw[←hU]
     clear hU
     have d0:=AU.1 0 _ rfl
     have d1:=AU.1 1 _ rfl
     have hD:=AU.2.2
     clear c1w c2w bU AU hbel HO
     generalize wr.heap.size=D at*
     have hsU:=BU.size
     have ct:=scell_at OU.out m (by omega)
     rw[HX.out]at ct
     have OT:=own_take OU.out m (by omega)
     have O2:Hid (U.ownsRow w.heap.size 9 1 (.slice (some ⟨gs,0,none⟩) m cs) m (scells st'.reverse)):=by
      show World.ownsRow _ _ _ _ _ _ _
      rw[scells_take,List.reverse_cons,List.take_left' (by rw[List.length_reverse];exact hm)]at OT
      exact OT
     have hm0:decide ((m:Int)<0)=false:=decide_eq_false (by omega)
     clear OT OU HX hm
     go_wp2_with fail
     go_quiet (fail)
     go_wp2_with fail
     go_roundw
     case rel=>exact ⟨k+1,m,gs,cs,st',by omega,by go_num,by omega,by go_num,HL2,O2.out,HB2,below_drewN BU _⟩
     case measure=>simp[intOf]<;>omega
    rw[if_neg he]at hb
    have HF:Hid (balL l=false):=hb.symm
    have hne:(x.toList==t.s.toList)=false:=beq_eq_false_iff_ne.2 fun e=>he (by
     cases x with
     |mk a=>
      cases hts:t.s with
      |mk b=>
       rw[hts,ByteArray.toList_eq,ByteArray.toList_eq]at e
       exact congrArg ByteArray.mk (Array.toList_inj.1 e))
    clear hb he
    generalize t.s=ts at*
    obtain ⟨U,hU⟩: ∃U,U=wr.alloc (.cells #[.int .i64 2,.string ts] 74):=⟨_,rfl⟩
    have bU:Below wr.heap.size wr U:=by rw[hU];exact (Below.refl _ _).alloc (Nat.le_refl _) _
    have AU:BAt U wr.heap.size [.int .i64 2,.string ts]:=by rw[hU];exact BAt.new wr #[.int .i64 2,.string ts] _
    have BU:Below w.heap.size w U:=hbel.trans (bU.mono hbel.size)
    have OU:Hid (U.ownsRow w.heap.size 9 1 (.slice (some ⟨gs,0,none⟩) (m+1) cs) (m+1) (scells (x::st').reverse)):=own_below HO.out bU
    go_upto_region 5 with fail
    rw[←hU]
    clear hU
    have d0:=AU.1 0 _ rfl
    have d1:=AU.1 1 _ rfl
    have hD:=AU.2.2
    clear c1w c2w bU AU hbel HO
    generalize wr.heap.size=D at*
    have hsU:=BU.size
    have ct:=scell_at OU.out m (by omega)
    rw[HX.out]at ct
    have hm0:decide ((m:Int)<0)=false:=decide_eq_false (by omega)
    clear OU HX hm
    go_wp2_with fail
    go_quiet (fail)
    go_wp2_with fail
    go_ret
    exact ⟨ret_bool HF.out.symm,below_drewN BU _⟩
  have h2i:(t.k==2)=false:=beq_eq_false_iff_ne.2 h2
  rw[bal_text h1 h2]at hb
  have HB2:Hid (balS st (l.drop (k+1))=balL l):=hb
  clear hb h1 h2
  generalize t.k=tk at*
  generalize t.s=ts at*
  obtain ⟨U,hU⟩: ∃U,U=wr.alloc (.cells #[.int .i64 tk,.string ts] 74):=⟨_,rfl⟩
  have bU:Below wr.heap.size wr U:=by rw[hU];exact (Below.refl _ _).alloc (Nat.le_refl _) _
  have AU:BAt U wr.heap.size [.int .i64 tk,.string ts]:=by rw[hU];exact BAt.new wr #[.int .i64 tk,.string ts] _
  have BU:Below w.heap.size w U:=hbel.trans (bU.mono hbel.size)
  have OU:Hid (U.ownsRow w.heap.size 9 1 (.slice (some ⟨gs,0,none⟩) n cs) n (scells st.reverse)):=own_below HO.out bU
  go_upto_region 5 with fail
  rw[←hU]
  clear hU
  have d0:=AU.1 0 _ rfl
  have d1:=AU.1 1 _ rfl
  have hD:=AU.2.2
  clear c1w c2w bU AU hbel HO
  generalize wr.heap.size=D at*
  have hsU:=BU.size
  go_wp2_with fail
  go_roundw
  case rel=>exact ⟨k+1,n,gs,cs,st,by omega,by go_num,by omega,rfl,HL,OU,HB2,BU⟩
  case measure=>simp[intOf]<;>omega
 have hki: ¬(k:Int)<l.length:=by omega
 have HF:Hid (balL l=((n:Int)==0)):=by
  show _=_
  rw[←HB.out,List.drop_eq_nil_of_le (by omega),balS,←HL.out]
  cases st with
  |nil=>rfl
  |cons x y=>exact (beq_eq_false_iff_ne.2 (by rw[List.length_cons];omega)).symm
 go_wp2_with fail
 go_ret
 exact ⟨ret_bool HF.out.symm,hbel⟩
end Go.Proofs.YtfdgehlobbeomaaGreatDoor
namespace Go.Proofs.YtfdgehlobbeomaaGreatDoor
open Go.RowKit
structure LV where
 al:Bool
 pa:ByteArray
structure PT where
 ag:List ByteArray
 ln:List LV
def pt0:PT:=⟨[],[]⟩
def lv0:LV:=⟨false,ByteArray.empty⟩
def LineRow(w:World)(v:Value)(l:List LV):Prop:=
 (l=[]∧ ∃ao cap,v=.slice ao 0 cap)∨(0<l.length∧ ∃g off cap,v=.slice (some ⟨g,off,none⟩) l.length (l.length+cap)∧g<w.heap.size∧ ∀i,i<l.length→w.cell? ⟨g,off+i*2,none⟩=some (.bool (l.getD i lv0).al)∧w.cell? ⟨g,off+i*2+1,none⟩=some (.string (l.getD i lv0).pa))
theorem LineRow.same{w w':World}{v:Value}{l:List LV}(h:LineRow w v l)(hs:w.heap.size≤w'.heap.size)(hb: ∀k,k<w.heap.size→w'.heap[k]? =w.heap[k]?):LineRow w' v l:=by
 rcases h with h|⟨h0,g,off,cap,h1,h2,h3⟩
 ·exact .inl h
 exact .inr ⟨h0,g,off,cap,h1,by omega,fun i hi=>⟨(World.cell?_of_block (w:=w) (a:=⟨g,off+i*2,none⟩) (hb g h2)).trans (h3 i hi).1,(World.cell?_of_block (w:=w) (a:=⟨g,off+i*2+1,none⟩) (hb g h2)).trans (h3 i hi).2⟩⟩
theorem LineRow.below{w w':World}{v:Value}{l:List LV}(h:LineRow w v l)(hb:Below w.heap.size w w'):LineRow w' v l:=h.same hb.size hb.block
theorem LineRow.slice{w:World}{v:Value}{l:List LV}(h:LineRow w v l): ∃ao cap,v=.slice ao l.length cap:=by
 rcases h with ⟨rfl,ao,cap,rfl⟩|⟨_,g,off,cap,h1,_⟩
 ·exact ⟨ao,cap,rfl⟩
 exact ⟨_,_,h1⟩
theorem LineRow.of_own{w:World}{base:Nat}{e:TypeId}{v:Value}{l:List LV}{vs:List Value}(h:w.ownsRow base e 2 v l.length vs)
  (hin: ∀i,i<l.length→vs[i*2]? =some (.bool (l.getD i lv0).al)∧vs[i*2+1]? =some (.string (l.getD i lv0).pa)):LineRow w v l:=by
 by_cases h0:l.length=0
 ·have hl:l=[]:=List.eq_nil_of_length_eq_zero h0
  rw[h0]at h
  rcases h.2 with ⟨rfl,_⟩|⟨g,cap,cur,rfl,_⟩
  ·exact .inl ⟨hl,_,_,rfl⟩
  exact .inl ⟨hl,_,_,rfl⟩
 rcases h.2 with ⟨_,h1⟩|⟨g,cap,cur,rfl,_⟩
 ·exact absurd h1 h0
 refine .inr ⟨by omega,g,0,cap-l.length,by rw[Nat.add_sub_cancel' (own_room h)],(h.lt g rfl).2,fun i hi=> ?_⟩
 obtain ⟨h1,h2⟩:=hin i hi
 refine ⟨?_,?_⟩
 ·rw[Nat.zero_add,h.cellAt (i*2) (by omega)];exact h1
 rw[Nat.zero_add,h.cellAt (i*2+1) (by omega)];exact h2
def PartRow(w:World)(v:Value)(l:List PT):Prop:=
 (l=[]∧ ∃ao cap,v=.slice ao 0 cap)∨(0<l.length∧ ∃g off cap,v=.slice (some ⟨g,off,none⟩) l.length (l.length+cap)∧g<w.heap.size∧ ∀i,i<l.length→ ∃p q,w.cell? ⟨g,off+i*2,none⟩=some p∧StrRow w p (l.getD i pt0).ag∧w.cell? ⟨g,off+i*2+1,none⟩=some q∧LineRow w q (l.getD i pt0).ln)
theorem PartRow.same{w w':World}{v:Value}{l:List PT}(h:PartRow w v l)(hs:w.heap.size≤w'.heap.size)(hb: ∀k,k<w.heap.size→w'.heap[k]? =w.heap[k]?):PartRow w' v l:=by
 rcases h with h|⟨h0,g,off,cap,h1,h2,h3⟩
 ·exact .inl h
 refine .inr ⟨h0,g,off,cap,h1,by omega,fun i hi=> ?_⟩
 obtain ⟨p,q,c1,c2,c3,c4⟩:=h3 i hi
 exact ⟨p,q,(World.cell?_of_block (w:=w) (a:=⟨g,off+i*2,none⟩) (hb g h2)).trans c1,c2.same hs hb,(World.cell?_of_block (w:=w) (a:=⟨g,off+i*2+1,none⟩) (hb g h2)).trans c3,c4.same hs hb⟩
theorem PartRow.below{w w':World}{v:Value}{l:List PT}(h:PartRow w v l)(hb:Below w.heap.size w w'):PartRow w' v l:=h.same hb.size hb.block
theorem PartRow.slice{w:World}{v:Value}{l:List PT}(h:PartRow w v l): ∃ao cap,v=.slice ao l.length cap:=by
 rcases h with ⟨rfl,ao,cap,rfl⟩|⟨_,g,off,cap,h1,_⟩
 ·exact ⟨ao,cap,rfl⟩
 exact ⟨_,_,h1⟩
end Go.Proofs.YtfdgehlobbeomaaGreatDoor
namespace Go.Proofs.YtfdgehlobbeomaaGreatDoor
open Go.RowKit
set_option linter.unusedVariables false
def psum(f:Nat→Nat):Nat→Nat
 |0=>0
 |k+1=>psum f k+f k
theorem psum_le(f:Nat→Nat){k:Nat}: ∀{n},k≤n→psum f k≤psum f n
 |0,h=>by rw[show k=0 by omega];exact Nat.le_refl _
 |n+1,h=>by
  by_cases hk:k=n+1
  ·rw[hk];exact Nat.le_refl _
  have:=psum_le f (show k≤n by omega)
  show _≤psum f n+f n
  omega
theorem psum_at(f:Nat→Nat){k n:Nat}(h:k<n):f k≤psum f n:=by
 have:=psum_le f (show k+1≤n from h)
 have e:psum f (k+1)=psum f k+f k:=rfl
 omega
def sumEn(l:List EV):Nat:=l.length+psum (fun i=>(l.getD i ev0).s.size) l.length
end Go.Proofs.YtfdgehlobbeomaaGreatDoor
namespace Go.Proofs.YtfdgehlobbeomaaGreatDoor
open Go.RowKit
end Go.Proofs.YtfdgehlobbeomaaGreatDoor
namespace Go.Proofs.YtfdgehlobbeomaaGreatDoor
open Go.RowKit
set_option linter.unusedVariables false
end Go.Proofs.YtfdgehlobbeomaaGreatDoor
