/- HostSpec4, AddrBack, HostBack, Draw6Walk. -/
import Derived.Test.YtijliddchoehhaaGreatDoorQA33
set_option maxHeartbeats 8000000
set_option maxRecDepth 100000
namespace Go.Proofs.YtijliddchoehhaaGreatDoor
open Go.RowKit
theorem none_of_row{W:World}{B:Nat}(h:RowIs W B (hRow 0 ⟨#[]⟩ 0 0 0 0 0 0 0 0 0)):NoneCells W B:=⟨h 0 _ rfl,h 1 _ rfl,h 2 _ rfl,h 3 _ rfl,h 4 _ rfl,h 5 _ rfl,h 6 _ rfl,h 7 _ rfl,h 8 _ rfl,h 9 _ rfl,h 10 _ rfl⟩
theorem specParseHostS(s:ByteArray)(w:World)(hs:s.size≤1048576)(hp:0<s.size)(h9:s[0].toNat=91):
  Calls Tryz.prog 45 #[.string s] w fun e w'=>e=.returned (.tuple #[hostVal (rV (readH s)),.int .i64 (rC (readH s))])∧Below w.heap.size w w':=by
 rw[readH_six hp h9]
 have hem:=empty_no hp
 have hi:((s.size:Int)-1)=((s.size-1:Nat):Int):=by omega
 obtain ⟨c,hc⟩: ∃c:Nat,(s[s.size-1]'(by omega)).toNat=c:=⟨_,rfl⟩
 by_cases hcl:c=93
 ·have h1:1<s.size:=by
   rcases Nat.lt_or_ge 1 s.size with h|h
   ·exact h
   exfalso
   have e:s.size=1:=by omega
   have:(s[s.size-1]'(by omega)).toNat=s[0].toNat:=by congr 2;omega
   omega
  have HZ1:Hid (readS (s.extract 1 s.size).data.toList=readB (par6 (s.extract 1 (s.size-1)).data.toList)):=by
   show _=_
   rw[readS_yes (by rw[last_r h1];congr 1;exact u8_is (hc.trans hcl)),drop_r h1]
  have hts:(s.extract 1 (s.size-1)).size≤1048576:=by rw[ByteArray.size_extract];omega
  obtain ⟨O,hO⟩: ∃O,O=(w.alloc (.cells #[.int .i64 0,.string ⟨#[]⟩,.int .i64 0,.int .i64 0,.int .i64 0,.int .i64 0,.int .i64 0,.int .i64 0,.int .i64 0,.int .i64 0,.int .i64 0] 27)).alloc (.cells #[.int .i64 0,.string ⟨#[]⟩,.int .i64 0,.int .i64 0,.int .i64 0,.int .i64 0,.int .i64 0,.int .i64 0,.int .i64 0,.int .i64 0,.int .i64 0] 27):=⟨_,rfl⟩
  have HL:Hid (∀W,Below O.heap.size O W→Laid3 w W):=fun W h=>by rw[hO]at h;exact laid3 w W _ h
  have HE:Hid (∀W,Below O.heap.size O W→Below w.heap.size w W):=fun W h=>by
   rw[hO]at h
   exact (((Below.refl _ w).alloc (Nat.le_refl _) _).alloc (by simp) _).trans (h.mono (by simp;omega))
  obtain ⟨P,hP⟩: ∃P,P=O.alloc (.cells #[.int .i64 0,.int .i64 0,.int .i64 0,.int .i64 0,.int .i64 0,.int .i64 0,.int .i64 0,.int .i64 0] 25):=⟨_,rfl⟩
  have HPO:Hid (∀W,Below P.heap.size P W→Below O.heap.size O W):=fun W h=>by
   rw[hP]at h
   exact ((Below.refl _ O).alloc (Nat.le_refl _) _).trans (h.mono (by simp))
  have HPZ:Hid (∀W,Below P.heap.size P W→ArrAt W (w.heap.size+1+1) [0,0,0,0,0,0,0,0]):=fun W h=>by
   rw[hP]at h
   have h2:=(arr_new O).later h
   rwa[show O.heap.size=w.heap.size+1+1 by rw[hO];simp]at h2
  have CP:Hid (Calls Tryz.prog 73 #[.string (s.extract 1 (s.size-1))] P fun e w'=>e=.returned (parV (par6 (s.extract 1 (s.size-1)).data.toList))∧Hid (Below P.heap.size P w')):=specParseIp6 _ P hts
  have H8:Hid (∀gs,par6 (s.extract 1 (s.size-1)).data.toList=some gs→gs.length=8):=par6_eight _
  rw[HZ1.out]
  subst hcl
  have h1i:1≤(s.size:Int)-1:=by omega
  have h2i:(s.size:Int)-1≤(s.size:Int):=by omega
  generalize par6 (s.extract 1 (s.size-1)).data.toList=R at CP H8
  clear HZ1 hts
  cases R with
  |none=>
   show Calls _ _ _ _ fun e w'=>e=.returned (.tuple #[.agg #[.int .i64 0,.string ⟨#[]⟩,.int .i64 0,.int .i64 0,.int .i64 0,.int .i64 0,.int .i64 0,.int .i64 0,.int .i64 0,.int .i64 0,.int .i64 0],.int .i64 2])∧Below w.heap.size w w'
   go_enter Tryz.func45,Tryz.ntmps45
   go_wp2_with fail
   rw[←hO,←hP]
   refine CP.out.mono ?_
   rintro e w1 ⟨rfl,b1⟩
   rw[show parV none=.tuple #[.agg #[.int .i64 0,.int .i64 0,.int .i64 0,.int .i64 0,.int .i64 0,.int .i64 0,.int .i64 0,.int .i64 0],.bool false] from rfl]
   have AR:=HPZ.out _ b1.out
   obtain ⟨w9,h9⟩: ∃w9,w9=((((((((w1.setCell ⟨w.heap.size+1+1,0,none⟩ (.int .i64 0)).setCell ⟨w.heap.size+1+1,1,none⟩ (.int .i64 0)).setCell ⟨w.heap.size+1+1,2,none⟩ (.int .i64 0)).setCell ⟨w.heap.size+1+1,3,none⟩ (.int .i64 0)).setCell ⟨w.heap.size+1+1,4,none⟩ (.int .i64 0)).setCell ⟨w.heap.size+1+1,5,none⟩ (.int .i64 0)).setCell ⟨w.heap.size+1+1,6,none⟩ (.int .i64 0)).setCell ⟨w.heap.size+1+1,7,none⟩ (.int .i64 0)):=⟨_,rfl⟩
   have H9:Hid (w9=_):=h9
   have hl3:=HL.out w1 (HPO.out _ b1.out)
   have HR:Hid (RowIs w9 w.heap.size (hRow 0 ⟨#[]⟩ 0 0 0 0 0 0 0 0 0)):=by rw[h9];exact row_arr (row_of_none hl3.1) (by omega) 0 0 0 0 0 0 0 0
   have HR1:RowIs w9 (w.heap.size+1) (hRow 0 ⟨#[]⟩ 0 0 0 0 0 0 0 0 0):=by rw[h9];exact row_arr (row_of_none hl3.2.1) (by omega) 0 0 0 0 0 0 0 0
   have BW:Hid (Below w.heap.size w w9):=by rw[h9];exact below_store (HE.out _ (HPO.out _ b1.out)) (by omega) 0 0 0 0 0 0 0 0
   have AR9:Hid (ArrAt w9 (w.heap.size+1+1) [0,0,0,0,0,0,0,0]):=by rw[h9];exact arr_store AR 0 0 0 0 0 0 0 0
   have fz: ∀j,w9.frozen? ⟨w.heap.size,j,none⟩=false:=fun j=>by rw[h9];simp only[World.frozen?_setCell];exact hl3.2.2 j
   obtain ⟨c0,c1,c2,c3,c4,c5,c6,c7,c8,c9,c10⟩:=none_of_row HR.out
   obtain ⟨d0,d1,d2,d3,d4,d5,d6,d7,d8,d9,d10⟩:=none_of_row HR1
   clear hl3 h9 HR1
   have a0:=(AR.2 0 (by decide)).1
   have a1:=(AR.2 1 (by decide)).1
   have a2:=(AR.2 2 (by decide)).1
   have a3:=(AR.2 3 (by decide)).1
   have a4:=(AR.2 4 (by decide)).1
   have a5:=(AR.2 5 (by decide)).1
   have a6:=(AR.2 6 (by decide)).1
   have a7:=(AR.2 7 (by decide)).1
   have g0:=(AR.2 0 (by decide)).2
   have g1:=(AR.2 1 (by decide)).2
   have g2:=(AR.2 2 (by decide)).2
   have g3:=(AR.2 3 (by decide)).2
   have g4:=(AR.2 4 (by decide)).2
   have g5:=(AR.2 5 (by decide)).2
   have g6:=(AR.2 6 (by decide)).2
   have g7:=(AR.2 7 (by decide)).2
   simp only[List.getD_cons_zero,List.getD_cons_succ]at a0 a1 a2 a3 a4 a5 a6 a7
   clear AR
   go_wp2_with (rw[←H9.out])
   refine bodyPost_ret (host_result2 rfl _ _ w.heap.size _ 0 0 ⟨#[]⟩ 0 0 0 0 0 0 0 0 rfl rfl (host_store HR.out 0 0 ⟨#[]⟩ 0 0 0 0 0 0 0 0)) rfl ⟨rfl,below_hstore BW.out (Nat.le_refl _) 0 0 ⟨#[]⟩ 0 0 0 0 0 0 0 0⟩
  |some gs=>
   obtain ⟨x0,x1,x2,x3,x4,x5,x6,x7,hv,_,hx⟩:=parV_si (H8.out gs rfl)
   rw[hv]at CP
   have HV:Hid (hostVal (rV (readB (some gs)))=.agg #[.int .i64 3,.string ⟨#[]⟩,.int .i64 0,.int .i64 x0,.int .i64 x1,.int .i64 x2,.int .i64 x3,.int .i64 x4,.int .i64 x5,.int .i64 x6,.int .i64 x7]):=by
    show hostVal ⟨3,⟨#[]⟩,0,gs.map fun (x:Nat)=>(x:Int)⟩=_
    rw[hx]
    rfl
   rw[HV.out,show rC (readB (some gs))=0 from rfl]
   clear hv hx H8 HV
   go_enter Tryz.func45,Tryz.ntmps45
   go_wp2_with fail
   rw[←hO,←hP]
   refine CP.out.mono ?_
   rintro e w1 ⟨rfl,b1⟩
   have AR:=HPZ.out _ b1.out
   obtain ⟨w9,h9⟩: ∃w9,w9=((((((((w1.setCell ⟨w.heap.size+1+1,0,none⟩ (.int .i64 x0)).setCell ⟨w.heap.size+1+1,1,none⟩ (.int .i64 x1)).setCell ⟨w.heap.size+1+1,2,none⟩ (.int .i64 x2)).setCell ⟨w.heap.size+1+1,3,none⟩ (.int .i64 x3)).setCell ⟨w.heap.size+1+1,4,none⟩ (.int .i64 x4)).setCell ⟨w.heap.size+1+1,5,none⟩ (.int .i64 x5)).setCell ⟨w.heap.size+1+1,6,none⟩ (.int .i64 x6)).setCell ⟨w.heap.size+1+1,7,none⟩ (.int .i64 x7)):=⟨_,rfl⟩
   have H9:Hid (w9=_):=h9
   have hl3:=HL.out w1 (HPO.out _ b1.out)
   have HR:Hid (RowIs w9 w.heap.size (hRow 0 ⟨#[]⟩ 0 0 0 0 0 0 0 0 0)):=by rw[h9];exact row_arr (row_of_none hl3.1) (by omega) x0 x1 x2 x3 x4 x5 x6 x7
   have HR1:RowIs w9 (w.heap.size+1) (hRow 0 ⟨#[]⟩ 0 0 0 0 0 0 0 0 0):=by rw[h9];exact row_arr (row_of_none hl3.2.1) (by omega) x0 x1 x2 x3 x4 x5 x6 x7
   have BW:Hid (Below w.heap.size w w9):=by rw[h9];exact below_store (HE.out _ (HPO.out _ b1.out)) (by omega) x0 x1 x2 x3 x4 x5 x6 x7
   have AR9:Hid (ArrAt w9 (w.heap.size+1+1) [x0,x1,x2,x3,x4,x5,x6,x7]):=by rw[h9];exact arr_store AR x0 x1 x2 x3 x4 x5 x6 x7
   have fz: ∀j,w9.frozen? ⟨w.heap.size,j,none⟩=false:=fun j=>by rw[h9];simp only[World.frozen?_setCell];exact hl3.2.2 j
   obtain ⟨c0,c1,c2,c3,c4,c5,c6,c7,c8,c9,c10⟩:=none_of_row HR.out
   obtain ⟨d0,d1,d2,d3,d4,d5,d6,d7,d8,d9,d10⟩:=none_of_row HR1
   clear hl3 h9 HR1
   have a0:=(AR.2 0 (by decide)).1
   have a1:=(AR.2 1 (by decide)).1
   have a2:=(AR.2 2 (by decide)).1
   have a3:=(AR.2 3 (by decide)).1
   have a4:=(AR.2 4 (by decide)).1
   have a5:=(AR.2 5 (by decide)).1
   have a6:=(AR.2 6 (by decide)).1
   have a7:=(AR.2 7 (by decide)).1
   have g0:=(AR.2 0 (by decide)).2
   have g1:=(AR.2 1 (by decide)).2
   have g2:=(AR.2 2 (by decide)).2
   have g3:=(AR.2 3 (by decide)).2
   have g4:=(AR.2 4 (by decide)).2
   have g5:=(AR.2 5 (by decide)).2
   have g6:=(AR.2 6 (by decide)).2
   have g7:=(AR.2 7 (by decide)).2
   simp only[List.getD_cons_zero,List.getD_cons_succ]at a0 a1 a2 a3 a4 a5 a6 a7
   clear AR
   have AR:=AR9.out
   have b0:=(AR.2 0 (by decide)).1
   have b1:=(AR.2 1 (by decide)).1
   have b2:=(AR.2 2 (by decide)).1
   have b3:=(AR.2 3 (by decide)).1
   have b4:=(AR.2 4 (by decide)).1
   have b5:=(AR.2 5 (by decide)).1
   have b6:=(AR.2 6 (by decide)).1
   have b7:=(AR.2 7 (by decide)).1
   simp only[List.getD_cons_zero,List.getD_cons_succ]at b0 b1 b2 b3 b4 b5 b6 b7
   clear AR
   go_wp2_with (rw[←H9.out])
   refine bodyPost_ret (host_result2 rfl _ _ w.heap.size _ 3 0 ⟨#[]⟩ x0 x1 x2 x3 x4 x5 x6 x7 rfl rfl (host_store HR.out 3 0 ⟨#[]⟩ x0 x1 x2 x3 x4 x5 x6 x7)) rfl ⟨rfl,below_hstore BW.out (Nat.le_refl _) 3 0 ⟨#[]⟩ x0 x1 x2 x3 x4 x5 x6 x7⟩
 have HZ1:Hid (readS (s.extract 1 s.size).data.toList=.bad 2):=by
  by_cases h1:1<s.size
  ·refine readS_no ?_
   rw[last_r h1]
   intro e
   have e2:=Option.some.inj e
   apply hcl
   rw[←hc,e2]
   rfl
  refine readS_no ?_
  rw[nil_r h1]
  simp
 have q0:((c:Int)==93)=false:=beq_eq_false_iff_ne.2 (by omega)
 rw[HZ1.out]
 show Calls _ _ _ _ fun e w'=>e=.returned (.tuple #[.agg #[.int .i64 0,.string ⟨#[]⟩,.int .i64 0,.int .i64 0,.int .i64 0,.int .i64 0,.int .i64 0,.int .i64 0,.int .i64 0,.int .i64 0,.int .i64 0],.int .i64 2])∧Below w.heap.size w w'
 clear HZ1 hcl
 go_enter Tryz.func45,Tryz.ntmps45
 go_wp2_with fail
 go_returns
 exact ⟨rfl,by go_grown⟩
theorem specParseHost(s:ByteArray)(w:World)(hs:s.size≤1048576):
  Calls Tryz.prog 45 #[.string s] w fun e w'=>e=.returned (.tuple #[hostVal (rV (readH s)),.int .i64 (rC (readH s))])∧Below w.heap.size w w':=by
 by_cases h0:s.size=0
 ·exact specParseHost0 s w h0
 have hp:0<s.size:=by omega
 by_cases h9:s[0].toNat=91
 ·exact specParseHostS s w hs hp h9
 exact specParseHostN s w hs hp h9
theorem ip4T_size(n:Int):(ip4T n).size≤100:=by
 unfold ip4T
 show (ip4L n.toNat).toArray.size≤100
 rw[List.size_toArray]
 unfold ip4L
 have h1:=dec3_len (n.toNat/16777216)
 have h2:=dec3_len (n.toNat/65536%256)
 have h3:=dec3_len (n.toNat/256%256)
 have h4:=dec3_len (n.toNat%256)
 simp
 omega
theorem six_nat{z:List Int}(h:sixOk z): ∀g∈z.map Int.toNat,g<65536:=by
 intro g hg
 obtain ⟨x,hx,rfl⟩:=List.mem_map.1 hg
 have:=h.2 x hx
 omega
theorem six_ok{z:List Int}(h:sixOk z):okG z=true:=okG_yes h.2
theorem six_list{x0 x1 x2 x3 x4 x5 x6 x7:Int}(h:sixOk [x0,x1,x2,x3,x4,x5,x6,x7]):par6 (ip6L [x0,x1,x2,x3,x4,x5,x6,x7])=some ([x0,x1,x2,x3,x4,x5,x6,x7].map Int.toNat):=by
 unfold ip6L
 rw[if_pos (six_ok h)]
 have hr:=row_ok x0 x1 x2 x3 x4 x5 x6 x7
 have hle:=row_le hr
 unfold rowOkB at hr
 have hz: ∀i,i<8→(zb [x0,x1,x2,x3,x4,x5,x6,x7]).getD i false=true→([x0,x1,x2,x3,x4,x5,x6,x7].map Int.toNat).getD i 0=0:=by
  intro i hi hb
  have h8:i=0∨i=1∨i=2∨i=3∨i=4∨i=5∨i=6∨i=7:=by omega
  rcases h8 with rfl|rfl|rfl|rfl|rfl|rfl|rfl|rfl<;>simp[zb]at hb⊢ <;>omega
 generalize rowI 0 (0,0,0) (zb [x0,x1,x2,x3,x4,x5,x6,x7])=p at hr hle⊢
 simp only[Bool.and_eq_true,decide_eq_true_eq]at hr
 by_cases c:p.2.1-p.1<2
 ·unfold ip6T
  rw[if_pos c]
  exact par6_gt rfl (six_nat h)
 have h3:=hr.2
 rw[if_neg c]at h3
 simp only[Bool.and_eq_true,decide_eq_true_eq,List.all_eq_true,List.mem_range,Bool.or_eq_true,Bool.not_eq_true',Bool.and_eq_false_iff,decide_eq_false_iff_not]at h3
 refine par6_text rfl (six_nat h) hle.2 ?_
 intro i h1 h2
 refine hz i (by omega) ?_
 rcases h3.2 i (by omega)with h4|h4
 ·omega
 exact h4
end Go.Proofs.YtijliddchoehhaaGreatDoor
namespace Go.Proofs.YtijliddchoehhaaGreatDoor
open Go.RowKit
set_option linter.unusedVariables false
theorem un_id: ∀{l:List UInt8},(∀c∈l,c.toNat≠37)→unL l=l
 |[],_=>rfl
 |c::r,h=>by
  rw[un_byte c r (hd_no c r (h c List.mem_cons_self)),un_id fun x hx=>h x (List.mem_cons_of_mem _ hx)]
theorem jn_chars: ∀{ls:List ByteArray},(∀a∈ls,labL a.data.toList=true)→ ∀c∈jn 46 ls,labB c=true∨c=46:=by
 intro ls h c hc
 cases ls with
 |nil=>simp[jn]at hc
 |cons x xs=>
  unfold jn at hc
  rcases List.mem_append.1 hc with h1|h1
  ·exact .inl ((labL_parts (h x List.mem_cons_self)).2.2.2.2 c h1)
  obtain ⟨y,hy,h2⟩:=List.mem_flatMap.1 h1
  rcases List.mem_cons.1 h2 with h3|h3
  ·exact .inr h3
  exact .inl ((labL_parts (h y (List.mem_cons_of_mem _ hy))).2.2.2.2 c h3)
theorem char_no{c:UInt8}(h:labB c=true∨c=46):c.toNat≠37∧c≠91:=by
 rcases h with h|rfl
 ·rcases labB_parts h with h1|h1|h1
  ·exact ⟨by omega,fun e=>by rw[e]at h1;simp at h1⟩
  ·exact ⟨by omega,fun e=>by rw[e]at h1;simp at h1⟩
  exact ⟨by omega,fun e=>by rw[e]at h1;simp at h1⟩
 exact ⟨by decide,by decide⟩
theorem readH_self{s:ByteArray}(h:nameL s=some s.data.toList):readH s=readM s.data.toList∧0<s.size:=by
 obtain ⟨ls,hne,_,_,hl,hj,_,_,hp⟩:=name_back h
 have hch: ∀c∈s.data.toList,labB c=true∨c=46:=by
  rw[hj]
  exact jn_chars fun a ha=>(hl a ha).1
 have hp':0<s.size:=by simpa using hp
 refine ⟨?_,hp'⟩
 have h0:s[0]∈s.data.toList:=by
  rw[toL_one s hp']
  exact List.mem_cons_self
 rw[readH_name hp' (fun e=>(char_no (hch _ h0)).2 (u8_is e))]
 unfold readN unB
 rw[un_id fun c hc=>(char_no (hch c hc)).1,arr_back,h]
theorem dec3_ok: ∀v,v<256→okA (dec3 v)=true:=by decide+kernel
theorem dec3_end: ∀v,v<256→endT ⟨(dec3 v).toArray⟩=true:=by decide+kernel
theorem ip4_jn(n:Nat):jn 46 [⟨(dec3 (n/16777216)).toArray⟩,⟨(dec3 (n/65536%256)).toArray⟩,⟨(dec3 (n/256%256)).toArray⟩,⟨(dec3 (n%256)).toArray⟩]=ip4L n:=by
 simp[jn,ip4L]
theorem ip4_name{n:Nat}(hn:n<4294967296):nameL ⟨(ip4L n).toArray⟩=some (ip4L n):=by
 have hv: ∀a∈([⟨(dec3 (n/16777216)).toArray⟩,⟨(dec3 (n/65536%256)).toArray⟩,⟨(dec3 (n/256%256)).toArray⟩,⟨(dec3 (n%256)).toArray⟩]:List ByteArray),∃v,v<256∧a=⟨(dec3 v).toArray⟩:=by
  intro a ha
  simp only[List.mem_cons,List.not_mem_nil,or_false]at ha
  rcases ha with rfl|rfl|rfl|rfl
  ·exact ⟨_,by omega,rfl⟩
  ·exact ⟨_,by omega,rfl⟩
  ·exact ⟨_,by omega,rfl⟩
  exact ⟨_,by omega,rfl⟩
 have hj:=ip4_jn n
 generalize ([⟨(dec3 (n/16777216)).toArray⟩,⟨(dec3 (n/65536%256)).toArray⟩,⟨(dec3 (n/256%256)).toArray⟩,⟨(dec3 (n%256)).toArray⟩]:List ByteArray)=ls at hv hj
 have hlab: ∀a∈ls,labL a.data.toList=true:=by
  intro a ha
  obtain ⟨v,hv1,rfl⟩:=hv a ha
  exact okA_lab (dec3_ok v hv1)
 have hasc: ∀a∈ls,ascB a=some a:=by
  intro a ha
  obtain ⟨v,hv1,rfl⟩:=hv a ha
  unfold ascB
  rw[show (⟨(dec3 v).toArray⟩:ByteArray).data.toList=dec3 v from rfl,ascL_of_ok (dec3_ok v hv1)]
 have hne:ls≠[]:=by
  intro h0
  rw[h0]at hj
  have:=congrArg List.length hj
  simp[jn,ip4L]at this
 rw[←hj]
 unfold nameL
 rw[fields_jn hne hlab,dropE_labs hlab]
 refine namesL_yes (ascs_self hasc) ?_
 rw[hj]
 have:=ip4T_size (n:Int)
 unfold ip4T at this
 have e:(ip4L n).length=(⟨(ip4L ((n:Int).toNat)).toArray⟩:ByteArray).size:=by
  show _=(ip4L ((n:Int).toNat)).toArray.size
  rw[List.size_toArray]
  rfl
 omega
theorem ip4_ends{n:Nat}(hn:n<4294967296):endL ⟨(ip4L n).toArray⟩=true:=by
 have h:=lastF_spl ⟨(ip4L n).toArray⟩ (dec3 (n/16777216)++46::(dec3 (n/65536%256)++46::(dec3 (n/256%256)++[46]))) (dec3 (n%256)) (by simp[ip4L])
  (.inr ⟨dec3 (n/16777216)++46::(dec3 (n/65536%256)++46::dec3 (n/256%256)),by simp⟩) (dec3_46 (by omega))
 unfold endL
 have e:lastF ⟨(ip4L n).toArray⟩=⟨(dec3 (n%256)).toArray⟩:=data_inj h
 rw[e]
 exact dec3_end _ (by omega)
theorem readM_ip4{n:Nat}(hn:n<4294967296):readM (ip4L n)=.fo n:=by
 unfold readM
 rw[if_pos (ip4_ends hn),loA_ip4 hn rfl]
theorem grp_lt(t:Bool): ∀{fs:List (List UInt8)} {g:List Nat},grp t fs=some g→ ∀x∈g,x<65536
 |[],g,h,x,hx=>by cases h;simp at hx
 |y::r,g,h,x,hx=>by
  rw[grp]at h
  split at h
  ·rename_i n hn
   cases h
   have hn4:n<4294967296:=by
    split at hn
    ·exact (p4_some hn).1
    cases hn
   simp only[List.mem_cons,List.not_mem_nil,or_false]at hx
   omega
  split at h
  ·cases h
  rename_i v hv
  cases hr:grp t r with
  |none=>rw[hr]at h;cases h
  |some q=>
   rw[hr]at h
   cases h
   rcases List.mem_cons.1 hx with rfl|h2
   ·unfold g16 at hv
    split at hv
    ·cases hv
    exact g16_lt hv
   exact grp_lt t hr x h2
theorem grpS_lt(t:Bool){l:List UInt8}{g:List Nat}(h:grpS t l=some g): ∀x∈g,x<65536:=by
 unfold grpS at h
 split at h
 ·cases h
  intro x hx
  simp at hx
 exact grp_lt t h
theorem par6_lt{l:List UInt8}{g:List Nat}(h:par6 l=some g): ∀x∈g,x<65536:=by
 unfold par6 at h
 split at h
 ·split at h
  ·cases h
  rename_i q hq
  split at h
  ·cases h
   exact grpS_lt true hq
  cases h
 split at h
 ·rename_i a b ha hb
  split at h
  ·cases h
   intro x hx
   unfold fill8 at hx
   rcases List.mem_append.1 hx with h1|h1
   ·rcases List.mem_append.1 h1 with h2|h2
    ·exact grpS_lt false ha x h2
    rw[(List.mem_replicate.1 h2).2]
    decide
   exact grpS_lt true hb x h1
  cases h
 cases h
theorem okG_nat{g:List Nat}(h: ∀x∈g,x<65536):okG (g.map fun (x:Nat)=>(x:Int))=true:=by
 refine okG_yes ?_
 intro x hx
 obtain ⟨y,hy,rfl⟩:=List.mem_map.1 hx
 have:=h y hy
 omega
theorem read_ok(s:ByteArray):(∃c,readH s=.bad c∧1≤c∧c≤4)∨(hOk (rV (readH s))=true∧rC (readH s)=0):=by
 have key: ∀l,(∃c,readM l=.bad c∧1≤c∧c≤4)∨nameL ⟨l.toArray⟩=some l→(∃c,readM l=.bad c∧1≤c∧c≤4)∨(hOk (rV (readM l))=true∧rC (readM l)=0):=by
  intro l hl
  rcases hl with hl|hl
  ·exact .inl hl
  unfold readM
  split
  ·cases h:loA ⟨l.toArray⟩with
   |none=>exact .inl ⟨4,rfl,by decide,by decide⟩
   |some v=>
    have:=loA_lt h
    refine .inr ⟨?_,rfl⟩
    show hOk ⟨2,⟨#[]⟩,v,zeros⟩=true
    unfold hOk
    rw[if_neg (show ¬(2:Int)=1 by decide),if_pos rfl]
    simp only[Bool.and_eq_true,decide_eq_true_eq]
    exact ⟨⟨rfl,by omega,by omega⟩,trivial⟩
  rename_i he
  refine .inr ⟨?_,rfl⟩
  show hOk ⟨1,⟨l.toArray⟩,0,zeros⟩=true
  unfold hOk
  rw[if_pos rfl]
  have he':endL ⟨l.toArray⟩=false:=by simpa using he
  simp[hl,he']
 unfold readH
 split
 ·exact .inl ⟨1,rfl,by decide,by decide⟩
 rename_i c r hl
 split
 ·unfold readS
  split
  ·cases h:par6 r.dropLast with
   |none=>exact .inl ⟨2,rfl,by decide,by decide⟩
   |some g=>
    refine .inr ⟨?_,rfl⟩
    show hOk ⟨3,⟨#[]⟩,0,g.map fun (x:Nat)=>(x:Int)⟩=true
    unfold hOk
    rw[if_neg (show ¬(3:Int)=1 by decide),if_neg (show ¬(3:Int)=2 by decide),if_pos rfl]
    simp only[okG_nat (par6_lt h)]
    rfl
  exact .inl ⟨2,rfl,by decide,by decide⟩
 unfold readN
 split
 ·exact .inl ⟨3,rfl,by decide,by decide⟩
 rename_i n hn
 obtain ⟨_,_,_,_,_,_,hb,_,_⟩:=name_back hn
 exact key n (.inr hb)
theorem readH_cons{s:ByteArray}{c:UInt8}{r:List UInt8}(h:s.data.toList=c::r):readH s=if c=91 then readS r else readN s:=by
 unfold readH
 rw[h]
theorem host_back{k n:Int}{s:ByteArray}{x0 x1 x2 x3 x4 x5 x6 x7:Int}(h:hOk ⟨k,s,n,[x0,x1,x2,x3,x4,x5,x6,x7]⟩=true):0<(hTx ⟨k,s,n,[x0,x1,x2,x3,x4,x5,x6,x7]⟩).size∧rV (readH (hTx ⟨k,s,n,[x0,x1,x2,x3,x4,x5,x6,x7]⟩))=⟨k,s,n,[x0,x1,x2,x3,x4,x5,x6,x7]⟩∧rC (readH (hTx ⟨k,s,n,[x0,x1,x2,x3,x4,x5,x6,x7]⟩))=0:=by
 unfold hTx
 rw[if_pos h]
 unfold hOk at h
 simp only at h⊢
 by_cases h1:k=1
 ·subst h1
  rw[if_pos rfl]at h⊢
  simp only[Bool.and_eq_true,decide_eq_true_eq,Bool.not_eq_true']at h
  obtain ⟨⟨⟨h1,h2⟩,h3⟩,h4⟩:=h
  obtain ⟨h5,h6⟩:=readH_self h1
  have h7:readM s.data.toList=.nm s.data.toList:=by
   unfold readM
   rw[arr_back,if_neg (by rw[h2];decide)]
  rw[h5,h7]
  refine ⟨h6,?_,rfl⟩
  show HV.mk 1 ⟨s.data.toList.toArray⟩ 0 zeros=_
  rw[arr_back,h3,h4]
 rw[if_neg h1]at h⊢
 by_cases h2:k=2
 ·subst h2
  rw[if_pos rfl]at h⊢
  simp only[Bool.and_eq_true,decide_eq_true_eq]at h
  obtain ⟨⟨h3,h4,h5⟩,h6⟩:=h
  have hn:n.toNat<4294967296:=by omega
  have hs:s=⟨#[]⟩:=data_inj (List.eq_nil_of_length_eq_zero (by simpa using h3))
  have hr:readH (ip4T n)=.fo n.toNat∧0<(ip4T n).size:=by
   have hnm:nameL (ip4T n)=some (ip4T n).data.toList:=ip4_name hn
   obtain ⟨a,b⟩:=readH_self hnm
   refine ⟨?_,b⟩
   rw[a]
   exact readM_ip4 hn
  rw[hr.1]
  refine ⟨hr.2,?_,rfl⟩
  show HV.mk 2 ⟨#[]⟩ ((n.toNat:Nat):Int) zeros=_
  rw[Int.toNat_of_nonneg h4,hs,h6]
 rw[if_neg h2]at h⊢
 by_cases h3:k=3
 ·subst h3
  rw[if_pos rfl]at h
  simp only[Bool.and_eq_true,decide_eq_true_eq]at h
  obtain ⟨⟨h4,h5⟩,h6⟩:=h
  have h8:=okG_all h6
  have hsix:sixOk [x0,x1,x2,x3,x4,x5,x6,x7]:=⟨rfl,h8⟩
  have hs:s=⟨#[]⟩:=data_inj (List.eq_nil_of_length_eq_zero (by simpa using h4))
  have hr:readH ⟨(91::(ip6L [x0,x1,x2,x3,x4,x5,x6,x7]++[93])).toArray⟩=.si ([x0,x1,x2,x3,x4,x5,x6,x7].map Int.toNat):=by
   rw[readH_cons (c:=91) (r:=ip6L [x0,x1,x2,x3,x4,x5,x6,x7]++[93]) rfl,if_pos rfl]
   unfold readS
   rw[List.getLast?_concat,if_pos rfl,List.dropLast_concat,six_list hsix]
   rfl
  rw[hr]
  refine ⟨?_,?_,rfl⟩
  ·show 0<(91::(ip6L [x0,x1,x2,x3,x4,x5,x6,x7]++[93])).toArray.size
   simp
  show HV.mk 3 ⟨#[]⟩ 0 (([x0,x1,x2,x3,x4,x5,x6,x7].map Int.toNat).map fun (y:Nat)=>(y:Int))=_
  have e:([x0,x1,x2,x3,x4,x5,x6,x7].map Int.toNat).map (fun (y:Nat)=>(y:Int))=[x0,x1,x2,x3,x4,x5,x6,x7]:=by
   rw[List.map_map]
   conv=>rhs;rw[←List.map_id [x0,x1,x2,x3,x4,x5,x6,x7]]
   refine List.map_congr_left ?_
   intro y hy
   have:=(h8 y hy).1
   simp only[Function.comp,id]
   omega
  rw[e,hs,h5]
 rw[if_neg h3]at h
 cases h
end Go.Proofs.YtijliddchoehhaaGreatDoor
namespace Go.Proofs.YtijliddchoehhaaGreatDoor
open Go.RowKit
theorem readH_size(s:ByteArray):(rV (readH s)).s.size≤1048576:=by
 have hz:(⟨#[]⟩:ByteArray).size≤1048576:=by decide
 unfold readH
 split
 ·exact hz
 split
 ·unfold readS
  split
  ·cases par6 _ with
   |none=>exact hz
   |some g=>exact hz
  exact hz
 unfold readN
 split
 ·exact hz
 rename_i n hn
 unfold readM
 split
 ·split<;>exact hz
 show n.toArray.size≤1048576
 rw[List.size_toArray]
 have:=nameL_le hn
 omega
theorem none_of_heap{W:World}{R:Nat}{t:TypeId}(h:W.heap[R]? =some (.cells #[.int .i64 0,.string ⟨#[]⟩,.int .i64 0,.int .i64 0,.int .i64 0,.int .i64 0,.int .i64 0,.int .i64 0,.int .i64 0,.int .i64 0,.int .i64 0] t (0,0))):NoneCells W R∧ ∀j,W.frozen? ⟨R,j,none⟩=false:=by
 refine ⟨⟨?_,?_,?_,?_,?_,?_,?_,?_,?_,?_,?_⟩,fun j=>frozen_of_row W R j _ t h⟩<;>(rw[cell_of_row W R _ _ t (0,0) h];rfl)
theorem cur_hstore{D B:Nat}{ao:Option Addr}{len cap:Nat}{W:World}(h:Cur D B ao len cap W){C:Nat}(hC:B<C)(k n:Int)(s:ByteArray)(x0 x1 x2 x3 x4 x5 x6 x7:Int):Cur D B ao len cap (((((((((((W.setCell ⟨C,0,none⟩ (.int .i64 k)).setCell ⟨C,1,none⟩ (.string s)).setCell ⟨C,2,none⟩ (.int .i64 n)).setCell ⟨C,3,none⟩ (.int .i64 x0)).setCell ⟨C,4,none⟩ (.int .i64 x1)).setCell ⟨C,5,none⟩ (.int .i64 x2)).setCell ⟨C,6,none⟩ (.int .i64 x3)).setCell ⟨C,7,none⟩ (.int .i64 x4)).setCell ⟨C,8,none⟩ (.int .i64 x5)).setCell ⟨C,9,none⟩ (.int .i64 x6)).setCell ⟨C,10,none⟩ (.int .i64 x7)):=
 ((((((((((h.set hC _).set hC _).set hC _).set hC _).set hC _).set hC _).set hC _).set hC _).set hC _).set hC _).set hC _
theorem grow_hstore{w W:World}{row:Option Nat}(h:w.grownBy W row){C:Nat}(hC:w.heap.size≤C)(k n:Int)(s:ByteArray)(x0 x1 x2 x3 x4 x5 x6 x7:Int):w.grownBy (((((((((((W.setCell ⟨C,0,none⟩ (.int .i64 k)).setCell ⟨C,1,none⟩ (.string s)).setCell ⟨C,2,none⟩ (.int .i64 n)).setCell ⟨C,3,none⟩ (.int .i64 x0)).setCell ⟨C,4,none⟩ (.int .i64 x1)).setCell ⟨C,5,none⟩ (.int .i64 x2)).setCell ⟨C,6,none⟩ (.int .i64 x3)).setCell ⟨C,7,none⟩ (.int .i64 x4)).setCell ⟨C,8,none⟩ (.int .i64 x5)).setCell ⟨C,9,none⟩ (.int .i64 x6)).setCell ⟨C,10,none⟩ (.int .i64 x7)) row:=
 grow_set (grow_set (grow_set (grow_set (grow_set (grow_set (grow_set (grow_set (grow_set (grow_set (grow_set h hC _) hC _) hC _) hC _) hC _) hC _) hC _) hC _) hC _) hC _) hC _
theorem four_ok{z:Int}(h0:0≤z)(h1:z<4294967296):hOk ⟨2,⟨#[]⟩,z,[0,0,0,0,0,0,0,0]⟩=true:=by
 unfold hOk
 rw[if_neg (show ¬(2:Int)=1 by decide),if_pos rfl]
 simp only[Bool.and_eq_true,decide_eq_true_eq]
 exact ⟨⟨rfl,h0,h1⟩,rfl⟩
theorem six_okH{l:List Int}(h:sixOk l):hOk ⟨3,⟨#[]⟩,0,l⟩=true:=by
 unfold hOk
 rw[if_neg (show ¬(3:Int)=1 by decide),if_neg (show ¬(3:Int)=2 by decide),if_pos rfl]
 simp only[okG_yes h.2]
 rfl
theorem read_right(z:ByteArray)(h:rC (readH z)=0):hOk (rV (readH z))=true:=by
 rcases read_ok z with ⟨c,h1,h2,_⟩|h1
 ·rw[h1]at h
  have:c=0:=h
  omega
 exact h1.1
theorem acom_ok:hOk ⟨1,⟨#[97,46,99,111,109]⟩,0,[0,0,0,0,0,0,0,0]⟩=true:=by decide+kernel
theorem l6Host(D B:Nat)(ao:Option Addr)(len cap:Nat)(w:World)(hcur:Cur D B ao len cap w):
  Calls Tryz.prog 20 #[.pointer (some ⟨B,0,none⟩)] w fun e w'=> ∃(k n:Int) (s:ByteArray) (x0 x1 x2 x3 x4 x5 x6 x7:Int),(s.size≤1048576∧hOk ⟨k,s,n,[x0,x1,x2,x3,x4,x5,x6,x7]⟩=true)∧e=.returned (.agg #[.int .i64 k,.string s,.int .i64 n,.int .i64 x0,.int .i64 x1,.int .i64 x2,.int .i64 x3,.int .i64 x4,.int .i64 x5,.int .i64 x6,.int .i64 x7])∧Cur D B ao len cap w'∧w.grownBy w' (some B):=by
 have hB:=hcur.lt
 obtain ⟨O,hO⟩: ∃O,O=w.alloc (.cells #[.int .i64 0,.string ⟨#[]⟩,.int .i64 0,.int .i64 0,.int .i64 0,.int .i64 0,.int .i64 0,.int .i64 0,.int .i64 0,.int .i64 0,.int .i64 0] 27):=⟨_,rfl⟩
 have HC:Hid (Cur D B ao len cap O):=by rw[hO];exact hcur.alloc _
 have HG:Hid (w.grownBy O (some B)):=by rw[hO];exact World.grownBy_alloc w _ _
 have HH:Hid (O.heap[w.heap.size]? =some (.cells #[.int .i64 0,.string ⟨#[]⟩,.int .i64 0,.int .i64 0,.int .i64 0,.int .i64 0,.int .i64 0,.int .i64 0,.int .i64 0,.int .i64 0,.int .i64 0] 27 (0,0))):=by rw[hO];exact heap_alloc_new w _
 have HS:Hid (w.heap.size<O.heap.size):=by show _<_;rw[hO];simp
 clear hcur
 go_enter Tryz.func20,Tryz.ntmps20
 go_wp2_with fail
 rw[←hO]
 refine (l1Below 6 _ _ _ _ _ _ (by omega) (by omega) HC.out).mono ?_
 rintro e wa ⟨y,hy0,hy1,rfl,ca,ga⟩
 have CA:Hid (Cur D B ao len cap wa):=ca
 have GA:Hid (w.grownBy wa (some B)):=grow_trans HG.out ga
 have HA:Hid (wa.heap[w.heap.size]? =some (.cells #[.int .i64 0,.string ⟨#[]⟩,.int .i64 0,.int .i64 0,.int .i64 0,.int .i64 0,.int .i64 0,.int .i64 0,.int .i64 0,.int .i64 0,.int .i64 0] 27 (0,0))):=(ga.block _ HS.out (by intro h;cases h;omega)).trans HH.out
 have SA:Hid (w.heap.size<wa.heap.size):=Nat.lt_of_lt_of_le HS.out ga.size
 clear ca ga HC HG HH HS hO
 by_cases y0:y=0
 ·subst y0
  go_wp2_with fail
  refine (l5Four _ _ _ _ _ _ CA.out).mono ?_
  rintro e wb ⟨z,hz0,hz1,rfl,cb,gb⟩
  have CB:Hid (Cur D B ao len cap wb):=cb
  have GB:Hid (w.grownBy wb (some B)):=grow_trans GA.out gb
  have hh:=none_of_heap ((gb.block _ SA.out (by intro h;cases h;omega)).trans HA.out)
  have HR:Hid (RowIs wb w.heap.size (hRow 0 ⟨#[]⟩ 0 0 0 0 0 0 0 0 0)):=row_of_none hh.1
  obtain ⟨⟨c0,c1,c2,c3,c4,c5,c6,c7,c8,c9,c10⟩,fz⟩:=hh
  clear cb gb
  go_wp2_with fail
  refine bodyPost_ret (host_result1 rfl _ _ w.heap.size 2 z ⟨#[]⟩ 0 0 0 0 0 0 0 0 rfl (host_store HR.out 2 z ⟨#[]⟩ 0 0 0 0 0 0 0 0)) rfl ⟨2,z,⟨#[]⟩,0,0,0,0,0,0,0,0,⟨by decide,four_ok hz0 hz1⟩,rfl,cur_hstore CB.out hB 2 z ⟨#[]⟩ 0 0 0 0 0 0 0 0,grow_hstore GB.out (Nat.le_refl _) 2 z ⟨#[]⟩ 0 0 0 0 0 0 0 0⟩
 by_cases y1:y=1
 ·subst y1
  go_wp2_with fail
  refine (l5Six _ _ _ _ _ _ CA.out).mono ?_
  rintro e wb ⟨x0,x1,x2,x3,x4,x5,x6,x7,h6,rfl,cb,gb⟩
  have H6:Hid (sixOk [x0,x1,x2,x3,x4,x5,x6,x7]):=h6
  clear h6
  have CB:Hid (Cur D B ao len cap wb):=cb
  have GB:Hid (w.grownBy wb (some B)):=grow_trans GA.out gb
  have hh:=none_of_heap ((gb.block _ SA.out (by intro h;cases h;omega)).trans HA.out)
  have HR:Hid (RowIs wb w.heap.size (hRow 0 ⟨#[]⟩ 0 0 0 0 0 0 0 0 0)):=row_of_none hh.1
  obtain ⟨⟨c0,c1,c2,c3,c4,c5,c6,c7,c8,c9,c10⟩,fz⟩:=hh
  clear cb gb
  go_wp2_with fail
  refine bodyPost_ret (host_result1 rfl _ _ w.heap.size 3 0 ⟨#[]⟩ x0 x1 x2 x3 x4 x5 x6 x7 rfl (host_store HR.out 3 0 ⟨#[]⟩ x0 x1 x2 x3 x4 x5 x6 x7)) rfl ⟨3,0,⟨#[]⟩,x0,x1,x2,x3,x4,x5,x6,x7,⟨by decide,six_okH H6.out⟩,rfl,cur_hstore CB.out hB 3 0 ⟨#[]⟩ x0 x1 x2 x3 x4 x5 x6 x7,grow_hstore GB.out (Nat.le_refl _) 3 0 ⟨#[]⟩ x0 x1 x2 x3 x4 x5 x6 x7⟩
 have q0:(y==0)=false:=beq_eq_false_iff_ne.2 y0
 have q1:(y==1)=false:=beq_eq_false_iff_ne.2 y1
 go_wp2_with fail
 go_loopw[3] (fun i wr=> ∃k:Nat,k≤5∧i=.int .i64 k∧Cur D B ao len cap wr∧w.grownBy wr (some B)∧wr.heap[w.heap.size]? =some (.cells #[.int .i64 0,.string ⟨#[]⟩,.int .i64 0,.int .i64 0,.int .i64 0,.int .i64 0,.int .i64 0,.int .i64 0,.int .i64 0,.int .i64 0,.int .i64 0] 27 (0,0))∧w.heap.size<wr.heap.size) (fun i _=>5-(intOf i).toNat)
 case atStart=>exact ⟨0,by decide,rfl,CA.out,GA.out,HA.out,SA.out⟩
 obtain ⟨k,hk,rfl,hcu,hgr,hh,hsz⟩:=hrel
 have HU:Hid (Cur D B ao len cap wr):=hcu
 have HG:Hid (w.grownBy wr (some B)):=hgr
 have HH:Hid (wr.heap[w.heap.size]? =some (.cells #[.int .i64 0,.string ⟨#[]⟩,.int .i64 0,.int .i64 0,.int .i64 0,.int .i64 0,.int .i64 0,.int .i64 0,.int .i64 0,.int .i64 0,.int .i64 0] 27 (0,0))):=hh
 have HSZ:Hid (w.heap.size<wr.heap.size):=hsz
 clear hcu hgr hh hsz CA GA HA SA
 by_cases hlt:k<5
 ·have hki:(k:Int)<5:=by omega
  go_wp2_with fail
  refine (l4Name _ _ _ _ _ _ HU.out).mono ?_
  rintro e wc ⟨z,hz,rfl,cc,gc⟩
  have CC:Hid (Cur D B ao len cap wc):=cc
  have GC:Hid (w.grownBy wc (some B)):=grow_trans HG.out gc
  have HC:Hid (wc.heap[w.heap.size]? =some (.cells #[.int .i64 0,.string ⟨#[]⟩,.int .i64 0,.int .i64 0,.int .i64 0,.int .i64 0,.int .i64 0,.int .i64 0,.int .i64 0,.int .i64 0,.int .i64 0] 27 (0,0))):=(gc.block _ HSZ.out (by intro h;cases h;omega)).trans HH.out
  have SC:Hid (w.heap.size<wc.heap.size):=Nat.lt_of_lt_of_le HSZ.out gc.size
  have CP:Hid (Calls Tryz.prog 45 #[.string z] wc fun e w'=>e=.returned (.tuple #[hostVal (rV (readH z)),.int .i64 (rC (readH z))])∧Below wc.heap.size wc w'):=specParseHost z wc (by omega)
  obtain ⟨x0,x1,x2,x3,x4,x5,x6,x7,hz8,hv⟩:=hostVal_eight _ (readH_eight z)
  have hvs:(rV (readH z)).s.size≤1048576:=readH_size z
  have HK:Hid (rC (readH z)=0→hOk ⟨(rV (readH z)).k,(rV (readH z)).s,(rV (readH z)).n,[x0,x1,x2,x3,x4,x5,x6,x7]⟩=true):=by
   rw[←hz8]
   exact read_right z
  clear hz8
  rw[hv]at CP
  generalize rC (readH z)=C at CP HK
  generalize (rV (readH z)).k=kk at CP HK
  generalize (rV (readH z)).s=t at CP hvs HK
  generalize (rV (readH z)).n=n at CP HK
  clear cc gc hv
  go_wp2_with fail
  refine CP.out.mono ?_
  rintro e wd ⟨rfl,bd⟩
  have CD:Hid (Cur D B ao len cap (wd.alloc (.cells #[.int .i64 kk,.string t,.int .i64 n,.int .i64 x0,.int .i64 x1,.int .i64 x2,.int .i64 x3,.int .i64 x4,.int .i64 x5,.int .i64 x6,.int .i64 x7] 27))):=(CC.out.below bd.block).alloc _
  have GD:Hid (w.grownBy (wd.alloc (.cells #[.int .i64 kk,.string t,.int .i64 n,.int .i64 x0,.int .i64 x1,.int .i64 x2,.int .i64 x3,.int .i64 x4,.int .i64 x5,.int .i64 x6,.int .i64 x7] 27)) (some B)):=grow_alloc (grow_below GC.out bd) _
  have HD0:wd.heap[w.heap.size]? =some (.cells #[.int .i64 0,.string ⟨#[]⟩,.int .i64 0,.int .i64 0,.int .i64 0,.int .i64 0,.int .i64 0,.int .i64 0,.int .i64 0,.int .i64 0,.int .i64 0] 27 (0,0)):=(bd.block _ SC.out).trans HC.out
  have SD0:w.heap.size<wd.heap.size:=Nat.lt_of_lt_of_le SC.out bd.size
  have HD:Hid ((wd.alloc (.cells #[.int .i64 kk,.string t,.int .i64 n,.int .i64 x0,.int .i64 x1,.int .i64 x2,.int .i64 x3,.int .i64 x4,.int .i64 x5,.int .i64 x6,.int .i64 x7] 27)).heap[w.heap.size]? =some (.cells #[.int .i64 0,.string ⟨#[]⟩,.int .i64 0,.int .i64 0,.int .i64 0,.int .i64 0,.int .i64 0,.int .i64 0,.int .i64 0,.int .i64 0,.int .i64 0] 27 (0,0))):=(Below.heap_alloc wd _ _ SD0).trans HD0
  have SD:Hid (w.heap.size<(wd.alloc (.cells #[.int .i64 kk,.string t,.int .i64 n,.int .i64 x0,.int .i64 x1,.int .i64 x2,.int .i64 x3,.int .i64 x4,.int .i64 x5,.int .i64 x6,.int .i64 x7] 27)).heap.size):=by show _<_;simp;omega
  clear bd HD0 SD0
  by_cases hC:C=0
  ·subst hC
   have hh:=none_of_heap HD.out
   have HR:Hid (RowIs (wd.alloc (.cells #[.int .i64 kk,.string t,.int .i64 n,.int .i64 x0,.int .i64 x1,.int .i64 x2,.int .i64 x3,.int .i64 x4,.int .i64 x5,.int .i64 x6,.int .i64 x7] 27)) w.heap.size (hRow 0 ⟨#[]⟩ 0 0 0 0 0 0 0 0 0)):=row_of_none hh.1
   obtain ⟨⟨c0,c1,c2,c3,c4,c5,c6,c7,c8,c9,c10⟩,fz⟩:=hh
   go_wp2_with fail
   refine bodyPost_ret (host_result1 rfl _ _ w.heap.size kk n t x0 x1 x2 x3 x4 x5 x6 x7 rfl (host_store HR.out kk n t x0 x1 x2 x3 x4 x5 x6 x7)) rfl ⟨kk,n,t,x0,x1,x2,x3,x4,x5,x6,x7,⟨hvs,HK.out trivial⟩,rfl,cur_hstore CD.out hB kk n t x0 x1 x2 x3 x4 x5 x6 x7,grow_hstore GD.out (Nat.le_refl _) kk n t x0 x1 x2 x3 x4 x5 x6 x7⟩
  have qC:(C==0)=false:=beq_eq_false_iff_ne.2 hC
  go_wp2_with fail
  go_roundw
  case rel=>exact ⟨k+1,by omega,by go_num,CD.out,GD.out,HD.out,SD.out⟩
  case measure=>simp[intOf];omega
 have hki: ¬(k:Int)<5:=by omega
 have hh:=none_of_heap HH.out
 have HR:Hid (RowIs wr w.heap.size (hRow 0 ⟨#[]⟩ 0 0 0 0 0 0 0 0 0)):=row_of_none hh.1
 obtain ⟨⟨c0,c1,c2,c3,c4,c5,c6,c7,c8,c9,c10⟩,fz⟩:=hh
 go_wp2_with fail
 refine bodyPost_ret (host_result1 rfl _ _ w.heap.size 1 0 ⟨#[97,46,99,111,109]⟩ 0 0 0 0 0 0 0 0 rfl (host_store HR.out 1 0 ⟨#[97,46,99,111,109]⟩ 0 0 0 0 0 0 0 0)) rfl ⟨1,0,⟨#[97,46,99,111,109]⟩,0,0,0,0,0,0,0,0,⟨by decide,acom_ok⟩,rfl,cur_hstore HU.out hB 1 0 ⟨#[97,46,99,111,109]⟩ 0 0 0 0 0 0 0 0,grow_hstore HG.out (Nat.le_refl _) 1 0 ⟨#[97,46,99,111,109]⟩ 0 0 0 0 0 0 0 0⟩
end Go.Proofs.YtijliddchoehhaaGreatDoor
