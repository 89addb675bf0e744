/- MapImpl. -/
import Derived.Test.YtfdgehlobbeomaaGreatDoorQM25
import Derived.Lib.OthersKept
set_option maxHeartbeats 4000000
set_option maxRecDepth 100000
namespace Go.Proofs.YtfdgehlobbeomaaGreatDoor
open Go.RowKit
set_option linter.unusedVariables false
set_option linter.unusedSimpArgs false
def inM(n t:List UInt8):List UInt8:=60::(n++62::(t++60::47::(n++[62])))
theorem inM_len(n t:List UInt8):(inM n t).length=2*n.length+t.length+5:=by
 unfold inM
 simp only[List.length_cons,List.length_append,List.length_nil]
 omega
theorem map_in(b:Bool)(l:List EV):mapT b l=inM (rootN b) (entsT b l):=rfl
theorem ent_in(b:Bool)(e:EV):entT b e=inM (entN b) (inM nLoc (escL e.s.data.toList)++inM nPrio (prioT e.k)):=by
 unfold entT inM
 simp
def inV(n t:ByteArray):ByteArray:=⟨(inM n.data.toList t.data.toList).toArray⟩
theorem inV_size(n t:ByteArray):(inV n t).size=2*n.size+t.size+5:=by
 have h1:n.data.toList.length=n.size:=by simp
 have h2:t.data.toList.length=t.size:=by simp
 show (inM n.data.toList t.data.toList).toArray.size=_
 rw[List.size_toArray,inM_len,h1,h2]
theorem inV_cat(n t:ByteArray):(⟨#[60]⟩++n++⟨#[62]⟩++t++⟨#[60,47]⟩++n++⟨#[62]⟩:ByteArray)=inV n t:=by
 rw[←Lib.mk_data (⟨#[60]⟩++n++⟨#[62]⟩++t++⟨#[60,47]⟩++n++⟨#[62]⟩:ByteArray)]
 unfold inV
 congr 1
 rw[←Array.toList_inj]
 simp only[app_data14]
 unfold inM
 simp
theorem implInMarks(n t:ByteArray)(w:World)(hn:n.size≤100)(ht:t.size≤1000000000):
  Calls Tryz.prog 18 #[.string n,.string t] w fun e w'=>e=.returned (.string (inV n t))∧w=w':=by
 have HE:=inV_cat n t
 have e1:(⟨#[60]⟩:ByteArray).size=1:=rfl
 have e2:(⟨#[60,47]⟩:ByteArray).size=2:=rfl
 have e3:(⟨#[62]⟩:ByteArray).size=1:=rfl
 generalize inV n t=R at HE⊢
 have HH:Hid ((⟨#[60]⟩++n++⟨#[62]⟩++t++⟨#[60,47]⟩++n++⟨#[62]⟩:ByteArray)=R):=HE
 clear HE
 go_enter Tryz.func18,Tryz.ntmps18
 go_wp2_with fail
 go_ret
 exact ⟨by rw[←HH.out];rfl,rfl⟩
theorem implNamesOf(b:Bool)(w:World):
  Calls Tryz.prog 16 #[.bool b] w fun e w'=>e=.returned (.tuple #[.string (rtV b),.string (nmV b)])∧w=w':=by
 cases b with
 |true=>
  go_enter Tryz.func16,Tryz.ntmps16
  go_wp2_with fail
  go_ret2
  exact ⟨rfl,rfl⟩
 |false=>
  go_enter Tryz.func16,Tryz.ntmps16
  go_wp2_with fail
  go_ret2
  exact ⟨rfl,rfl⟩
def escV(s:ByteArray):ByteArray:=⟨(escL s.data.toList).toArray⟩
theorem escV_size(s:ByteArray):(escV s).size≤6*s.size:=by
 have h1:=esc_len s.data.toList
 have h2:s.data.toList.length=s.size:=by simp
 show (escL s.data.toList).toArray.size≤_
 rw[List.size_toArray]
 omega
def locV:ByteArray:=⟨#[108,111,99]⟩
def priV:ByteArray:=⟨#[112,114,105,111,114,105,116,121]⟩
def enV(e:EV):ByteArray:=inV locV (escV e.s)++inV priV (prioV e.k)
theorem enV_data(e:EV):(enV e).data.toList=inM nLoc (escL e.s.data.toList)++inM nPrio (prioT e.k):=by
 unfold enV
 rw[app_data14]
 rfl
theorem enV_size(e:EV):(enV e).size≤6*e.s.size+40:=by
 have h1:=escV_size e.s
 have h2:=prioV_size e.k
 have h3:locV.size=3:=rfl
 have h4:priV.size=8:=rfl
 unfold enV
 rw[ByteArray.size_append,inV_size,inV_size]
 omega
theorem implEntryText(x:EV)(w:World)(hs:x.s.size≤1048576)(hE:Esc w):
  Calls Tryz.prog 19 #[.agg #[.string x.s,.int .i64 x.k]] w fun e w'=>e=.returned (.string (enV x))∧Below w.heap.size w w':=by
 obtain ⟨O,hO⟩: ∃O,O=w.alloc (.cells #[.string x.s,.int .i64 x.k] 32):=⟨_,rfl⟩
 have bO:Below w.heap.size w O:=by rw[hO];exact (Below.refl _ _).alloc (Nat.le_refl _) _
 have AO:BAt O w.heap.size [.string x.s,.int .i64 x.k]:=by rw[hO];exact BAt.new w #[.string x.s,.int .i64 x.k] _
 have HE:Hid (Esc O):=hE.later bO
 have CE:Hid (∀W,Below O.heap.size O W→CB 40 #[.string x.s] W (.string (escV x.s))):=fun W hW=>implEscape x.s W (by omega) (HE.out.later hW)
 have CP:Hid (∀W,Below O.heap.size O W→CB 10 #[.int .i64 x.k] W (.string (prioV x.k))):=fun W _=>implPriorityText x.k W
 have CM:Hid (∀W,Below O.heap.size O W→CB 18 #[.string ⟨#[108,111,99]⟩,.string (escV x.s)] W (.string (inV locV (escV x.s)))):=fun W _=>(implInMarks locV (escV x.s) W (by decide) (by have:=escV_size x.s;omega)).mono (by rintro e w' ⟨h1,rfl⟩;exact ⟨h1,Below.refl _ _⟩)
 have CN:Hid (∀W,Below O.heap.size O W→CB 18 #[.string ⟨#[112,114,105,111,114,105,116,121]⟩,.string (prioV x.k)] W (.string (inV priV (prioV x.k)))):=fun W _=>(implInMarks priV (prioV x.k) W (by decide) (by have:=prioV_size x.k;omega)).mono (by rintro e w' ⟨h1,rfl⟩;exact ⟨h1,Below.refl _ _⟩)
 have z1:(inV locV (escV x.s)).size≤10000000:=by
  have:=escV_size x.s
  have h3:locV.size=3:=rfl
  rw[inV_size];omega
 have z2:(inV priV (prioV x.k)).size≤1000:=by
  have:=prioV_size x.k
  have h3:priV.size=8:=rfl
  rw[inV_size];omega
 have HR:Hid (inV locV (escV x.s)++inV priV (prioV x.k)=enV x):=rfl
 generalize inV locV (escV x.s)=T1 at*
 generalize inV priV (prioV x.k)=T2 at*
 generalize escV x.s=E at*
 generalize prioV x.k=P at*
 generalize enV x=R at*
 clear hE HE
 go_enter Tryz.func19,Tryz.ntmps19
 go_upto_region 1 with fail
 rw[←hO]
 clear hO
 generalize w.heap.size=D at AO⊢
 refine wp_region_held_drew (S:=fun W=>BAt W D [.string x.s,.int .i64 x.k]∧Below O.heap.size O W) (by kernel_rfl) ⟨AO,(Below.refl _ _).drew⟩ (fun h0=> ?_)
 clear AO
 refine wpAnyH_take (i:=0) (v:= ?_) rfl (by kernel_rfl) (by kernel_rfl) (by kernel_rfl) (fun _ _ _ h=>h) (Or.inl ⟨by rfl,fun W hW=> ?_⟩) h0 ?_
 rotate_left
 ·clear hW
  go_simp
  try with_reducible rfl
 simp only[Act.put,List.getElem_toArray,List.getElem_cons_zero,List.getElem_cons_succ,List.setIfInBounds_toArray,List.set_cons_zero,List.set_cons_succ]
 refine wpAnyH_take (i:=1) (v:=(.string x.s)) rfl (by kernel_rfl) (by kernel_rfl) (by kernel_rfl) (fun _ _ _ h=>h) (Or.inl ⟨by rfl,fun W hW=> ?_⟩) h0 ?_
 ·have q1:=hW.1.1 0 _ rfl
  go_simp
 simp only[Act.put,List.getElem_toArray,List.getElem_cons_zero,List.getElem_cons_succ,List.setIfInBounds_toArray,List.set_cons_zero,List.set_cons_succ]
 refine wpAnyH_take (i:=4) (v:= ?_) rfl (by kernel_rfl) (by kernel_rfl) (by kernel_rfl) (fun _ _ _ h=>h) (Or.inl ⟨by rfl,fun W hW=> ?_⟩) h0 ?_
 rotate_left
 ·clear hW
  go_simp
  try with_reducible rfl
 simp only[Act.put,List.getElem_toArray,List.getElem_cons_zero,List.getElem_cons_succ,List.setIfInBounds_toArray,List.set_cons_zero,List.set_cons_succ]
 refine wpAnyH_take (i:=5) (v:=(.int .i64 x.k)) rfl (by kernel_rfl) (by kernel_rfl) (by kernel_rfl) (fun _ _ _ h=>h) (Or.inl ⟨by rfl,fun W hW=> ?_⟩) h0 ?_
 ·have q1:=hW.1.1 1 _ rfl
  go_simp
 simp only[Act.put,List.getElem_toArray,List.getElem_cons_zero,List.getElem_cons_succ,List.setIfInBounds_toArray,List.set_cons_zero,List.set_cons_succ]
 refine wpAnyH_ready (rs:=[2]) (by kernel_rfl) (by simp) (AllReadyH.cons rfl (fun K hK=> ?_) AllReadyH.nil)
 go_simp
 go_wp2_with (go_at_call 40;refine (CE.out _ h0.2).mono ?_;rintro e w1 ⟨rfl,bq⟩)
 refine hK.out _ _ ⟨h0.1.below bq,h0.2.trans (bq.mono h0.2.size)⟩ (fun h1=> ?_)
 clear hK K bq h0
 refine wpAnyH_ready (rs:=[3]) (by kernel_rfl) (by simp) (AllReadyH.cons rfl (fun K hK=> ?_) AllReadyH.nil)
 go_simp
 go_wp2_with (go_at_call 18;refine (CM.out _ h1.2).mono ?_;rintro e w2 ⟨rfl,bq⟩)
 refine hK.out _ _ ⟨h1.1.below bq,h1.2.trans (bq.mono h1.2.size)⟩ (fun h2=> ?_)
 clear hK K bq h1
 refine wpAnyH_ready (rs:=[6]) (by kernel_rfl) (by simp) (AllReadyH.cons rfl (fun K hK=> ?_) AllReadyH.nil)
 go_simp
 go_wp2_with (go_at_call 10;refine (CP.out _ h2.2).mono ?_;rintro e w3 ⟨rfl,bq⟩)
 refine hK.out _ _ ⟨h2.1.below bq,h2.2.trans (bq.mono h2.2.size)⟩ (fun h3=> ?_)
 clear hK K bq h2
 refine wpAnyH_ready (rs:=[7]) (by kernel_rfl) (by simp) (AllReadyH.cons rfl (fun K hK=> ?_) AllReadyH.nil)
 go_simp
 go_wp2_with (go_at_call 18;refine (CN.out _ h3.2).mono ?_;rintro e w4 ⟨rfl,bq⟩)
 refine hK.out _ _ ⟨h3.1.below bq,h3.2.trans (bq.mono h3.2.size)⟩ (fun h4=> ?_)
 clear hK K bq h3
 refine wpAnyH_take (i:=8) (v:= ?_) rfl (by kernel_rfl) (by kernel_rfl) (by kernel_rfl) (fun _ _ _ h=>h) (Or.inl ⟨by rfl,fun W hW=> ?_⟩) h4 ?_
 rotate_left
 ·clear hW
  go_simp
  rw[if_neg (by omega)]
 simp only[Act.put,List.getElem_toArray,List.getElem_cons_zero,List.getElem_cons_succ,List.setIfInBounds_toArray,List.set_cons_zero,List.set_cons_succ]
 refine wpAnyH_take (i:=9) (v:= ?_) rfl (by kernel_rfl) (by kernel_rfl) (by kernel_rfl) (fun _ _ _ h=>h) (Or.inl ⟨by rfl,fun W hW=> ?_⟩) h4 ?_
 rotate_left
 ·clear hW
  go_simp
  try with_reducible rfl
 simp only[Act.put,List.getElem_toArray,List.getElem_cons_zero,List.getElem_cons_succ,List.setIfInBounds_toArray,List.set_cons_zero,List.set_cons_succ]
 refine wpAnyH_done (by kernel_rfl) ?_ _
 go_wp2_with fail
 go_ret
 exact ⟨by rw[←HR.out];rfl,bO.trans (h4.2.mono bO.size)⟩
theorem implSitemapText(b:Bool)(l:List EV)(v:Value)(w:World)(hN:sumEn l≤1048576)(hE:Esc w)(h:EntRow w v l):
  Calls Tryz.prog 7 #[.agg #[.bool b,v]] w fun e w'=>e=.returned (.string ⟨(mapT b l).toArray⟩)∧Below w.heap.size w w':=by
 obtain ⟨B,hB⟩: ∃B,B=w.heap.size+1:=⟨_,rfl⟩
 obtain ⟨O,hO⟩: ∃O,O=(w.alloc (.cells #[.bool b,v] 26)).alloc (.cells #[.pointer none,.slice none 0 0] 45):=⟨_,rfl⟩
 have bO:Below w.heap.size w O:=by rw[hO];exact ((Below.refl _ _).alloc (Nat.le_refl _) _).alloc (by simp) _
 have AO:BAt O w.heap.size [.bool b,v]:=by rw[hO];exact (BAt.new w #[.bool b,v] _).alloc _
 have HB0:Hid (Bld B [] O):=by
  have:=Bld.new (w.alloc (.cells #[.bool b,v] 26))
  rw[World.size_alloc,←hB,←hO]at this
  exact this
 have HEW:Hid (Esc w):=hE
 obtain ⟨vo,vc,rfl⟩:=h.slice
 have HCells:Hid (∀k,k<l.length→ ∃g off cc,Value.slice vo l.length vc=.slice (some ⟨g,off,none⟩) l.length cc∧ ∀W,Below w.heap.size w W→W.cell? ⟨g,off+k*2,none⟩=some (.string (l.getD k ev0).s)∧W.cell? ⟨g,off+k*2+1,none⟩=some (.int .i64 (l.getD k ev0).k)):=fun k hk=>by
  rcases h with ⟨h,_⟩|⟨_,g,off,cc,h1,h2,h3⟩
  ·rw[h]at hk;cases hk
  refine ⟨g,off,_,h1,fun W hW=> ?_⟩
  obtain ⟨e1,e2⟩:=h3 k hk
  exact ⟨(hW.cell (p:=⟨g,off+k*2,none⟩) h2).trans e1,(hW.cell (p:=⟨g,off+k*2+1,none⟩) h2).trans e2⟩
 have HLen:Hid (∀k,k≤l.length→((l.take k).flatMap (entT b)).length≤80000000):=fun k hk=>by
  have h1:=ents_len b l k hk
  have h2:=psum_le (fun i=>(l.getD i ev0).s.size) hk
  unfold sumEn at hN
  omega
 have HSz:Hid (∀k,k<l.length→(l.getD k ev0).s.size≤1048576):=fun k hk=>by
  have:=psum_at (fun i=>(l.getD i ev0).s.size) hk
  unfold sumEn at hN
  omega
 have hll:l.length≤1048576:=by unfold sumEn at hN;omega
 clear h hN hE
 have HNm:Hid ((nmV b).data.toList=entN b∧(rtV b).data.toList=rootN b):=⟨rfl,rfl⟩
 have hn1:(nmV b).size≤7:=by cases b<;>decide
 have hn2:(rtV b).size≤12:=by cases b<;>decide
 have CN:=hidM (fun W=>implNamesOf b W)
 generalize nmV b=nm at*
 generalize rtV b=rt at*
 have c00:(w.alloc (.cells #[.bool b,.slice vo l.length vc] 26)).cell? ⟨w.heap.size,0,none⟩=some (.bool b):=(BAt.new w #[.bool b,.slice vo l.length vc] _).1 0 _ rfl
 go_enter Tryz.func7,Tryz.ntmps7
 go_upto_region 3 with (go_at_call 16;refine (CN.out _).mono ?_;rintro e w' ⟨rfl,rfl⟩)
 rw[←hO,←hB]
 have hwB:w.heap.size≤B:=by omega
 clear hO hB c00 CN
 have c0:=AO.1 1 _ rfl
 go_wp2_with fail
 clear c0 AO
 go_loopw[17] (fun i wr=> ∃k:Nat,k≤l.length∧i=.int .i64 k∧Hid (Bld B ((l.take k).flatMap (entT b)) wr)∧Below w.heap.size w wr) (fun i _=>l.length-(intOf i).toNat)
 case atStart=>exact ⟨0,Nat.zero_le _,rfl,HB0,bO⟩
 obtain ⟨k,hk,rfl,HB,hbel⟩:=hrel
 clear HB0 bO
 by_cases hlt:k<l.length
 ·have hki:(k:Int)<l.length:=by omega
  obtain ⟨g,off,cc,hv,hc⟩:=HCells.out k hlt
  cases hv
  obtain ⟨q1,q2⟩:=hc wr hbel
  have hx:=HSz.out k hlt
  have hT:=HLen.out k hk
  have HT1:Hid ((l.take (k+1)).flatMap (entT b)=(l.take k).flatMap (entT b)++entT b (l.getD k ev0)):=flat_next13 (entT b) ev0 l hlt
  clear hc
  generalize l.getD k ev0=x at*
  obtain ⟨T0,hT0⟩: ∃T0,List.flatMap (entT b) (l.take k)=T0:=⟨_,rfl⟩
  rw[hT0]at hT HT1 HB
  clear hT0
  obtain ⟨U,hU⟩: ∃U,U=wr.alloc (.cells #[.string x.s,.int .i64 x.k] 32):=⟨_,rfl⟩
  have bU:Below wr.heap.size wr U:=by rw[hU];exact (Below.refl _ _).alloc (Nat.le_refl _) _
  have AU:BAt U wr.heap.size [.string x.s,.int .i64 x.k]:=by rw[hU];exact BAt.new wr #[.string x.s,.int .i64 x.k] _
  have BU:Below w.heap.size w U:=hbel.trans (bU.mono hbel.size)
  have HBU:Hid (Bld B T0 U):=HB.out.below bU
  have d0:=AU.1 0 _ rfl
  have d1:=AU.1 1 _ rfl
  go_upto_region 6 with fail
  rw[←hU]
  clear hU q1 q2 bU hbel HB AU
  generalize wr.heap.size=D at*
  have CX:Hid (CB 19 #[.agg #[.string x.s,.int .i64 x.k]] U (.string (enV x))):=implEntryText x U (by omega) (HEW.out.later BU)
  have zx:(enV x).size≤7000000:=by have:=enV_size x;omega
  have HEN:Hid ((inV nm (enV x)).data.toList=entT b x):=by
   show inM nm.data.toList (enV x).data.toList=_
   rw[HNm.out.1,enV_data,ent_in]
  have zi:(inV nm (enV x)).size≤7000100:=by rw[inV_size];omega
  generalize enV x=X at*
  go_wp2_with (go_at_call 19;refine CX.out.mono ?_;rintro e w1 ⟨rfl,b1⟩)
  refine (implInMarks nm X _ (by omega) (by omega)).mono ?_
  rintro e w' ⟨rfl,rfl⟩
  have HB1:Hid (Bld B T0 w1):=HBU.out.below b1
  have BW:=BU.trans (b1.mono BU.size)
  clear HBU b1 BU d0 d1 CX
  generalize inV nm X=Y at*
  go_wp2_with fail
  refine (bldWrite B T0 Y _ (by omega) HB1.out).mono ?_
  rintro e w2 ⟨rfl,HB2,b2,_⟩
  have HN2:Hid (Bld B ((l.take (k+1)).flatMap (entT b)) w2):=by
   rw[HT1.out,←HEN.out]
   exact HB2
  have B2:=BW.trans (b2.mono hwB)
  clear HB2 b2 BW HB1
  go_wp2_with fail
  go_roundw
  case rel=>exact ⟨k+1,by omega,by go_num,HN2,B2⟩
  case measure=>simp[intOf]<;>omega
 have hki: ¬(k:Int)<l.length:=by omega
 have HBF:Hid (Bld B (entsT b l) wr):=by
  rw[List.take_of_length_le (show l.length≤k by omega)]at HB
  exact HB
 have hT:(entsT b l).length≤80000000:=by
  have:=HLen.out l.length (Nat.le_refl _)
  rw[List.take_length]at this
  exact this
 have HF:Hid (inV rt ⟨(entsT b l).toArray⟩=⟨(mapT b l).toArray⟩):=by
  rw[map_in,←HNm.out.2]
  rfl
 clear HB
 generalize entsT b l=T at*
 have zT:(⟨T.toArray⟩:ByteArray).size≤80000000:=by show T.toArray.size≤_;rw[List.size_toArray];exact hT
 go_wp2_with fail
 refine (bldString B T _ HBF.out).mono ?_
 rintro e w1 ⟨rfl,b1⟩
 have B1:=hbel.trans (b1.mono hwB)
 clear HBF
 generalize (⟨T.toArray⟩:ByteArray)=TV at*
 go_wp2_with fail
 refine (implInMarks rt TV _ (by omega) (by omega)).mono ?_
 rintro e w2 ⟨rfl,rfl⟩
 go_wp2_with fail
 go_ret
 exact ⟨by rw[←HF.out];rfl,B1⟩
end Go.Proofs.YtfdgehlobbeomaaGreatDoor
