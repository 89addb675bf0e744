/- Ip6Impl, HostPlain, Loose4Impl, Parse4Walk, Par6Spec. -/
import Derived.Test.YtijliddchoehhaaGreatDoorQA25
import Derived.Test.YtijliddchoehhaaGreatDoorQA16
set_option maxHeartbeats 8000000
set_option maxRecDepth 20000
namespace Go.Proofs.YtijliddchoehhaaGreatDoor
open Go.RowKit
def ip6L(z:List Int):List UInt8:=if okG z=true then ip6T (z.map Int.toNat) (rowI 0 (0,0,0) (zb z)).1 (rowI 0 (0,0,0) (zb z)).2.1 else []
theorem okG_all{z:List Int}(h:okG z=true): ∀x∈z,0≤x∧x≤65535:=by
 unfold okG at h
 rw[List.all_eq_true]at h
 intro x hx
 simpa using h x hx
theorem row_ok(x0 x1 x2 x3 x4 x5 x6 x7:Int):rowOkB (zb [x0,x1,x2,x3,x4,x5,x6,x7])=true:=rows_ok _ _ _ _ _ _ _ _
theorem row_le{z:List Int}(h:rowOkB (zb z)=true):(rowI 0 (0,0,0) (zb z)).1≤(rowI 0 (0,0,0) (zb z)).2.1∧(rowI 0 (0,0,0) (zb z)).2.1≤8:=by
 unfold rowOkB at h
 simp only[Bool.and_eq_true,decide_eq_true_eq]at h
 exact h.1
theorem grpAt_of{w:World}{B:Nat}{z:List Int}(hc: ∀k,k<8→w.cell? ⟨B,k,none⟩=some (.int .i64 (z.getD k 0)))(hz:z.length=8)(ha: ∀x∈z,0≤x∧x≤65535)(off m:Nat)(h:off+m≤8):
  GrpAt w B off (((z.map Int.toNat).drop off).take m)∧(((z.map Int.toNat).drop off).take m).length=m∧ ∀x∈((z.map Int.toNat).drop off).take m,x<65536:=by
 have hl:(((z.map Int.toNat).drop off).take m).length=m:=by simp;omega
 refine ⟨fun j hj=> ?_,hl,fun x hx=> ?_⟩
 ·rw[hl]at hj
  rw[hc (off+j) (by omega)]
  have h1:z[off+j]'(by omega)∈z:=List.getElem_mem _
  have h2:=ha _ h1
  simp only[List.getD_eq_getElem?_getD]
  rw[List.getElem?_eq_getElem (by omega),List.getElem?_eq_getElem (by omega),List.getElem_take,List.getElem_drop,List.getElem_map]
  simp only[Option.getD_some]
  congr 2
  omega
 have h1:=List.mem_of_mem_drop (List.mem_of_mem_take hx)
 obtain ⟨y,hy,rfl⟩:=List.mem_map.1 h1
 have:=ha y hy
 omega
theorem len8:Tryz.prog.arrayLen 25=8:=by kernel_rfl
theorem elem8:Tryz.prog.elem 25=3:=by kernel_rfl
theorem under8:Tryz.prog.underlying 25=some (.array (Tryz.prog.arrayLen 25) (Tryz.prog.elem 25)):=by kernel_rfl
theorem slice_hm(B f:Nat)(hf:f≤8)(W:World):(Instr.sliceAt 25 (.pointer (some ⟨B,0,none⟩)) none (some (.int .i64 (f:Int))) (some (.int .i64 (f:Int)))).run Tryz.prog W=.ok (.slice (some ⟨B,0,none⟩) f f) W:=by
 rw[run_sliceAt_array_hm (P:=Tryz.prog) W 25 ⟨B,0,none⟩ under8 .i64 .i64 f f (by omega) (by omega) (by rw[len8];omega),elem8]
 simp[slicedAt,Tryz.sizeOf3,Result.andThen,Addr.add_lit]
theorem slice_l(B t:Nat)(ht:t≤8)(W:World):(Instr.sliceAt 25 (.pointer (some ⟨B,0,none⟩)) (some (.int .i64 (t:Int))) none none).run Tryz.prog W=.ok (.slice (some ⟨B,if 8=t then 0 else t,none⟩) (8-t) (8-t)) W:=by
 rw[run_sliceAt_array_l (P:=Tryz.prog) W 25 ⟨B,0,none⟩ under8 .i64 t (by omega) (by rw[len8];omega),elem8,len8]
 by_cases h:8=t
 ·subst h
  simp[slicedAt,Tryz.sizeOf3,Result.andThen]
 simp[slicedAt,Tryz.sizeOf3,Result.andThen,Addr.add_lit,h]
theorem implIp6Text(x0 x1 x2 x3 x4 x5 x6 x7:Int)(w:World)(hT:Bruijn w):
  Calls Tryz.prog 51 #[.agg #[.int .i64 x0,.int .i64 x1,.int .i64 x2,.int .i64 x3,.int .i64 x4,.int .i64 x5,.int .i64 x6,.int .i64 x7]] w fun e w'=>e=.returned (.string ⟨(ip6L [x0,x1,x2,x3,x4,x5,x6,x7]).toArray⟩)∧Below w.heap.size w w':=by
 have CG:Hid (∀W,CB 82 #[.agg #[.int .i64 x0,.int .i64 x1,.int .i64 x2,.int .i64 x3,.int .i64 x4,.int .i64 x5,.int .i64 x6,.int .i64 x7]] W (.bool (okG [x0,x1,x2,x3,x4,x5,x6,x7]))):=fun W=>implGroupsOk x0 x1 x2 x3 x4 x5 x6 x7 W
 have CR:Hid (∀W,CB 83 #[.agg #[.int .i64 x0,.int .i64 x1,.int .i64 x2,.int .i64 x3,.int .i64 x4,.int .i64 x5,.int .i64 x6,.int .i64 x7]] W (rowV (rowI 0 (0,0,0) (zb [x0,x1,x2,x3,x4,x5,x6,x7])))):=fun W=>implLongest x0 x1 x2 x3 x4 x5 x6 x7 W
 have HT:Hid (Bruijn w):=hT
 clear hT
 have hrow:=row_le (row_ok x0 x1 x2 x3 x4 x5 x6 x7)
 cases hok:okG [x0,x1,x2,x3,x4,x5,x6,x7]with
 |false=>
  have HL:Hid (ip6L [x0,x1,x2,x3,x4,x5,x6,x7]=[]):=by show _=_;unfold ip6L;rw[hok];rfl
  rw[hok]at CG
  generalize ip6L [x0,x1,x2,x3,x4,x5,x6,x7]=L at HL⊢
  clear hok hrow CR
  go_enter Tryz.func51,Tryz.ntmps51
  go_wp2_with fail
  refine (CG.out _).mono ?_
  rintro e w1 ⟨rfl,b1⟩
  have B1:Below w.heap.size w w1:=((Below.refl _ w).alloc (Nat.le_refl _) _).trans (b1.mono (by simp))
  clear b1
  go_wp2_with fail
  go_ret
  exact ⟨by rw[HL.out];rfl,B1⟩
 |true=>
  have HL:Hid (ip6L [x0,x1,x2,x3,x4,x5,x6,x7]=ip6T ([x0,x1,x2,x3,x4,x5,x6,x7].map Int.toNat) (rowI 0 (0,0,0) (zb [x0,x1,x2,x3,x4,x5,x6,x7])).1 (rowI 0 (0,0,0) (zb [x0,x1,x2,x3,x4,x5,x6,x7])).2.1):=by show _=_;unfold ip6L;rw[if_pos hok]
  have HA:Hid (∀x∈[x0,x1,x2,x3,x4,x5,x6,x7],0≤x∧x≤65535):=okG_all hok
  rw[hok]at CG
  clear hok
  generalize rowI 0 (0,0,0) (zb [x0,x1,x2,x3,x4,x5,x6,x7])=r at HL CR hrow
  obtain ⟨f,t,b⟩:=r
  simp only[rowV]at HL CR hrow
  obtain ⟨hr1,hr2⟩:=hrow
  generalize ip6L [x0,x1,x2,x3,x4,x5,x6,x7]=L at HL⊢
  go_enter Tryz.func51,Tryz.ntmps51
  go_wp2_with fail
  refine (CG.out _).mono ?_
  rintro e w1 ⟨rfl,b1⟩
  have B1:Below w.heap.size w w1:=((Below.refl _ w).alloc (Nat.le_refl _) _).trans (b1.mono (by simp))
  have HC1:Hid (∀k,k<8→w1.cell? ⟨w.heap.size,k,none⟩=some (.int .i64 ([x0,x1,x2,x3,x4,x5,x6,x7].getD k 0))):=fun k hk=>cell_later b1 (cell8 w x0 x1 x2 x3 x4 x5 x6 x7 k hk)
  clear b1
  have a0:w1.cell? ⟨w.heap.size,0,none⟩=some (.int .i64 x0):=HC1.out 0 (by decide)
  have a1:w1.cell? ⟨w.heap.size,1,none⟩=some (.int .i64 x1):=HC1.out 1 (by decide)
  have a2:w1.cell? ⟨w.heap.size,2,none⟩=some (.int .i64 x2):=HC1.out 2 (by decide)
  have a3:w1.cell? ⟨w.heap.size,3,none⟩=some (.int .i64 x3):=HC1.out 3 (by decide)
  have a4:w1.cell? ⟨w.heap.size,4,none⟩=some (.int .i64 x4):=HC1.out 4 (by decide)
  have a5:w1.cell? ⟨w.heap.size,5,none⟩=some (.int .i64 x5):=HC1.out 5 (by decide)
  have a6:w1.cell? ⟨w.heap.size,6,none⟩=some (.int .i64 x6):=HC1.out 6 (by decide)
  have a7:w1.cell? ⟨w.heap.size,7,none⟩=some (.int .i64 x7):=HC1.out 7 (by decide)
  go_wp2_with fail
  refine (CR.out _).mono ?_
  rintro e w2 ⟨rfl,b2⟩
  have B2:Below w.heap.size w w2:=B1.trans (b2.mono B1.size)
  have HC2:Hid (∀k,k<8→w2.cell? ⟨w.heap.size,k,none⟩=some (.int .i64 ([x0,x1,x2,x3,x4,x5,x6,x7].getD k 0))):=fun k hk=>cell_later b2 (HC1.out k hk)
  have HT2:Hid (Bruijn w2):=bruijn_below HT.out B2
  clear a0 a1 a2 a3 a4 a5 a6 a7 b2 B1 HC1 CG CR
  by_cases h2:(t:Int)-f<2
  ·obtain ⟨g1,g2,g3⟩:=grpAt_of HC2.out rfl HA.out 0 8 (by decide)
   have CT:=implGroupsText w.heap.size 0 8 _ w2 (by omega) g3 g1 HT2.out
   rw[g2]at CT
   have CT:Hid (CB 84 #[.slice (some ⟨w.heap.size,0,none⟩) 8 8] w2 (.string ⟨L.toArray⟩)):=by
    rw[HL.out]
    unfold ip6T
    rw[if_pos (by omega)]
    exact CT
   clear g1 g2 g3 HL
   go_wp2_with fail
   refine CT.out.mono ?_
   rintro e w3 ⟨rfl,b3⟩
   have B3:=B2.trans (b3.mono B2.size)
   clear b3
   go_wp2_with fail
   go_ret
   exact ⟨rfl,B3⟩
  obtain ⟨g1,g2,g3⟩:=grpAt_of HC2.out rfl HA.out 0 f (by omega)
  have CT1:=implGroupsText w.heap.size 0 f _ w2 (by omega) g3 g1 HT2.out
  rw[g2,List.drop_zero]at CT1
  clear CT1
  have CT1:Hid (∀W,Below w2.heap.size w2 W→CB 84 #[.slice (some ⟨w.heap.size,0,none⟩) f f] W (.string ⟨(gtL (([x0,x1,x2,x3,x4,x5,x6,x7].map Int.toNat).take f)).toArray⟩)):=fun W hb=>by
   have h:=implGroupsText w.heap.size 0 f _ W (by omega) g3 (g1.later hb) (bruijn_below HT2.out hb)
   rw[g2,List.drop_zero]at h
   exact h
  have CT2:Hid (∀W,Below w2.heap.size w2 W→CB 84 #[.slice (some ⟨w.heap.size,if 8=t then 0 else t,none⟩) (8-t) (8-t)] W (.string ⟨(gtL (([x0,x1,x2,x3,x4,x5,x6,x7].map Int.toNat).drop t)).toArray⟩)):=fun W hb=>by
   obtain ⟨k1,k2,k3⟩:=grpAt_of HC2.out rfl HA.out t (8-t) (by omega)
   have k4:GrpAt w2 w.heap.size (if 8=t then 0 else t) ((([x0,x1,x2,x3,x4,x5,x6,x7].map Int.toNat).drop t).take (8-t)):=by
    by_cases h8:8=t
    ·intro j hj
     rw[k2]at hj
     omega
    rw[if_neg h8]
    exact k1
   have h:=implGroupsText w.heap.size (if 8=t then 0 else t) (8-t) _ W (by omega) k3 (k4.later hb) (bruijn_below HT2.out hb)
   rw[k2,List.take_of_length_le (by simp)]at h
   exact h
  have HLL:Hid (L=gtL (([x0,x1,x2,x3,x4,x5,x6,x7].map Int.toNat).take f)++58::58::gtL (([x0,x1,x2,x3,x4,x5,x6,x7].map Int.toNat).drop t)):=by
   show _=_
   rw[HL.out]
   unfold ip6T
   rw[if_neg (by omega)]
  clear g1 g2 g3 HL
  have s1:=(gt_len (([x0,x1,x2,x3,x4,x5,x6,x7].map Int.toNat).take f)).1
  have s2:=(gt_len (([x0,x1,x2,x3,x4,x5,x6,x7].map Int.toNat).drop t)).1
  rw[List.length_take]at s1
  rw[List.length_drop]at s2
  have h8:([x0,x1,x2,x3,x4,x5,x6,x7].map Int.toNat).length=8:=rfl
  rw[h8]at s1 s2
  clear h8
  generalize gtL (([x0,x1,x2,x3,x4,x5,x6,x7].map Int.toNat).take f)=L1 at CT1 HLL s1
  generalize gtL (([x0,x1,x2,x3,x4,x5,x6,x7].map Int.toNat).drop t)=L2 at CT2 HLL s2
  have z1:(⟨L1.toArray⟩:ByteArray).size≤100:=by show L1.toArray.size≤100;rw[List.size_toArray];omega
  have z2:(⟨L2.toArray⟩:ByteArray).size≤100:=by show L2.toArray.size≤100;rw[List.size_toArray];omega
  have HLT:Hid ((⟨L.toArray⟩:ByteArray)=⟨L1.toArray⟩++⟨#[58,58]⟩++⟨L2.toArray⟩):=by
   show _=_
   rw[HLL.out,show (⟨#[58,58]⟩:ByteArray)=⟨[58,58].toArray⟩ from rfl,cat_bytes,cat_bytes]
   simp
  generalize (⟨L1.toArray⟩:ByteArray)=T1 at CT1 HLT z1
  generalize (⟨L2.toArray⟩:ByteArray)=T2 at CT2 HLT z2
  clear HLL s1 s2
  have z0:(⟨#[58,58]⟩:ByteArray).size=2:=rfl
  have CT1d:Hid (Calls Tryz.prog 84 #[.slice (some ⟨w.heap.size,0,none⟩) f f] w2.drew fun e w'=>e=.returned (.string T1)∧Below w2.heap.size w2 w'):=(CT1.out w2.drew (Below.drew (Below.refl _ w2))).mono fun e w' h=>⟨h.1,(Below.drew (Below.refl _ w2)).trans h.2⟩
  have sl1:=slice_hm w.heap.size f (by omega)
  have sl2:=slice_l w.heap.size t hr2
  generalize (if 8=t then 0 else t)=o2 at sl2 CT2
  go_wp2_with fail
  go_region_with (go_at_call 84;first|(with_reducible refine CT1d.out.mono ?_;rintro e w3 ⟨rfl,k3⟩)|(with_reducible refine (CT2.out _ k3).mono ?_;rintro e w4 ⟨rfl,b4⟩))
  all_goals
   go_wp2_with fail
   go_ret
   exact ⟨by rw[HLT.out];rfl,(B2.trans (k3.mono B2.size)).trans (b4.mono (Nat.le_trans B2.size k3.size))⟩
structure HV where
 k:Int
 s:ByteArray
 n:Int
 z:List Int
def zeros:List Int:=[0,0,0,0,0,0,0,0]
def hOk(h:HV):Bool:=
 if h.k=1 then decide (nameL h.s=some h.s.data.toList)&& !endL h.s&&decide (h.n=0)&&decide (h.z=zeros)
 else if h.k=2 then decide (h.s.size=0)&&decide (0≤h.n∧h.n<4294967296)&&decide (h.z=zeros)
 else if h.k=3 then decide (h.s.size=0)&&decide (h.n=0)&&okG h.z
 else false
def hTx(h:HV):ByteArray:=if hOk h=true then (if h.k=1 then h.s else if h.k=2 then ip4T h.n else ⟨(91::(ip6L h.z++[93])).toArray⟩)else ⟨#[]⟩
structure HostR where
 t:Nat
 c:Int
 l:List UInt8
 n:Nat
 g:List Nat
def HostR.bad(c:Int):HostR:=⟨0,c,[],0,[]⟩
def HostR.nm(l:List UInt8):HostR:=⟨1,0,l,0,[]⟩
def HostR.fo(n:Nat):HostR:=⟨2,0,[],n,[]⟩
def HostR.si(g:List Nat):HostR:=⟨3,0,[],0,g⟩
def unB(s:ByteArray):ByteArray:=⟨(unL s.data.toList).toArray⟩
def readM(n:List UInt8):HostR:=if endL ⟨n.toArray⟩=true then (match loA ⟨n.toArray⟩with
 |none=> .bad 4
 |some v=> .fo v)else .nm n
def readN(s:ByteArray):HostR:=match nameL (unB s)with
 |none=> .bad 3
 |some n=>readM n
def readB(r:Option (List Nat)):HostR:=match r with
 |none=> .bad 2
 |some g=> .si g
def readS(r:List UInt8):HostR:=if r.getLast? =some 93 then readB (par6 r.dropLast)else .bad 2
def readH(s:ByteArray):HostR:=match s.data.toList with
 |[]=> .bad 1
 |c::r=>if c=91 then readS r else readN s
def rV(r:HostR):HV:=match r.t with
 |0=>⟨0,⟨#[]⟩,0,zeros⟩
 |1=>⟨1,⟨r.l.toArray⟩,0,zeros⟩
 |2=>⟨2,⟨#[]⟩,r.n,zeros⟩
 |_=>⟨3,⟨#[]⟩,0,r.g.map fun (x:Nat)=>(x:Int)⟩
def rC(r:HostR):Int:=r.c
theorem readH_nil{s:ByteArray}(h:s.size=0):readH s=.bad 1:=by
 have e:s.data.toList=[]:=List.eq_nil_of_length_eq_zero (by simpa using h)
 unfold readH
 rw[e]
theorem readH_six{s:ByteArray}(h:0<s.size)(h0:s[0].toNat=91):readH s=readS (s.extract 1 s.size).data.toList:=by
 have e:=toL_one s h
 unfold readH
 rw[e]
 simp only
 rw[if_pos (u8_is h0)]
theorem readH_name{s:ByteArray}(h:0<s.size)(h0: ¬s[0].toNat=91):readH s=readN s:=by
 have e:=toL_one s h
 unfold readH
 rw[e]
 simp only
 rw[if_neg (u8_not h0)]
theorem unB_size(s:ByteArray):(unB s).size≤s.size:=by
 unfold unB
 show (unL s.data.toList).toArray.size≤s.size
 rw[List.size_toArray]
 have:=un_len s.data.toList
 simpa using this
theorem arr_back(s:ByteArray):(⟨s.data.toList.toArray⟩:ByteArray)=s:=by
 apply toL_inj
 simp[toL]
theorem nameL_le{s:ByteArray}{n:List UInt8}(h:nameL s=some n):n.length≤253:=by
 unfold nameL namesL at h
 split at h
 ·split at h
  ·cases h;assumption
  cases h
 cases h
def nmOk(s:ByteArray):Bool:=decide (nameL s=some s.data.toList)&& !endL s

theorem st_end(fs:List ByteArray)(k n:Nat)(h: ¬k<fs.length):stF n ((fs.drop k).map toL)=some n:=by
 rw[List.drop_of_length_le (by omega)];rfl
theorem st_step(fs:List ByteArray)(k n:Nat)(h:k<fs.length):stF n ((fs.drop k).map toL)=match str1 (toL (fs.getD k ByteArray.empty))with
  |none=>none
  |some v=>stF (n*256+v) ((fs.drop (k+1)).map toL):=by
 rw[drop_bytes fs k h]
 rfl
theorem str1_nil{y:ByteArray}(h:y.size=0):str1 (toL y)=none:=by
 have:toL y=[]:=List.eq_nil_of_length_eq_zero (by simpa[toL] using h)
 rw[this];rfl
theorem str1_at{y:ByteArray}(h:0<y.size):str1 (toL y)=match numL 10 3 (toL y)with
  |none=>none
  |some v=>if 255<v∨1<y.size∧y[0].toNat=48 then none else some v:=by
 have e:=toL_one y h
 unfold str1
 rw[show (toL y).isEmpty=false by unfold toL;rw[e];rfl]
 simp only[Bool.false_eq_true,if_false]
 cases numL 10 3 (toL y)with
 |none=>rfl
 |some v=>
  simp only
  have e1:(1<(toL y).length∧(toL y).head? =some 48)↔(1<y.size∧y[0].toNat=48):=by
   have e2:(toL y).head? =some y[0]:=by unfold toL;rw[e];rfl
   have e3:(toL y).length=y.size:=by simp[toL]
   rw[e2,e3]
   constructor
   ·rintro ⟨a,b⟩
    exact ⟨a,by injection b with b;rw[b];rfl⟩
   rintro ⟨a,b⟩
   exact ⟨a,by rw[u8_is (d:=48) b]⟩
  simp only[e1]
theorem specParseIp4(s:ByteArray)(w:World)(hs:s.size≤1048576):
  Calls Tryz.prog 115 #[.string s] w fun e w'=>e=.returned (numA (p4 s.data.toList))∧Below w.heap.size w w':=by
 have CF:Hid (Calls Tryz.prog 66 #[.string s,.int .u8 46] w fun e w'=> ∃v,e=.returned v∧w'.ownsRow w.heap.size 9 1 v (fieldsL s 46).length (scells (fieldsL s 46))∧Below w.heap.size w w'):=specFields s 46 w hs
 have hpos:0<(fieldsL s 46).length:=by simp[fieldsL]
 have hlen:(fieldsL s 46).length≤1048577:=by
  have:=(fieldsTo_le s 46 s.size).2
  simp[fieldsL];omega
 have HSZ:Hid (∀x∈fieldsL s 46,x.size≤1048576):=fields_sizes46 s hs
 have HP:Hid (p4 s.data.toList=if (fieldsL s 46).length=4 then stF 0 ((fieldsL s 46).map toL)else none):=by
  show _=_
  unfold p4
  rw[←fieldsL_46,List.length_map]
 generalize fieldsL s 46=fs at CF hpos hlen HSZ HP
 by_cases h4:fs.length=4
 ·have HF:Hid (p4 s.data.toList=stF 0 (fs.map toL)):=by
   show _=_
   rw[HP.out,if_pos h4]
  have HM:Hid (fs.length=4):=h4
  go_enter Tryz.func115,Tryz.ntmps115
  go_wp2_with fail
  refine CF.out.mono ?_
  rintro e wa ⟨va,rfl,OV,ba⟩
  rcases own_shape OV with ⟨h,_⟩|⟨_,g,cap,rfl⟩
  ·omega
  rw[h4]at OV⊢
  clear h4 hpos hlen CF HP
  go_wp2_with fail
  go_loop[5,6] (fun x i=> ∃(k n:Nat) (a:Int),k≤4∧i=.int .i64 k∧x=.int .i64 a∧a=(n:Int)∧n<256^k∧stF n ((fs.drop k).map toL)=stF 0 (fs.map toL)) (fun _ i=>4-(intOf i).toNat)
  case atStart=>exact ⟨0,0,0,by omega,rfl,rfl,rfl,by decide,rfl⟩
  obtain ⟨k,n,a,hk,rfl,rfl,ha,hn,hf⟩:=hrel
  have HR:Hid (stF n ((fs.drop k).map toL)=stF 0 (fs.map toL)):=hf
  have HN:Hid (n<256^k):=hn
  have HA:Hid (a=(n:Int)):=ha
  clear hf
  by_cases hlt:k<4
  ·have hn2:n<16777216:=Nat.lt_of_lt_of_le hn (pow256 (by omega))
   have ha0:0≤a:=by omega
   have ha1:a<16777216:=by omega
   clear hn hn2 ha
   have hc:=scell_at OV k (by omega)
   have hsy:=HSZ.out _ (mem_getD (k:=k) (by have:=HM.out;omega))
   have HS:Hid (_=_):=st_step fs k n (by have:=HM.out;omega)
   have CN:Hid (∀W,CS 116 #[.string (fs.getD k ByteArray.empty),.int .i64 10,.int .i64 3] W (.int .i64 (numZ (numL 10 3 (toL (fs.getD k ByteArray.empty)))))):=fun W=>spec5Number _ 10 3 W (by omega) (by omega)
   generalize fs.getD k ByteArray.empty=y at hc hsy HS CN
   have hki:(k:Int)<4:=by omega
   by_cases he:y.size=0
   ·have HZ:Hid (p4 s.data.toList=none):=by
     show _=_
     rw[HF.out,←HR.out,HS.out,str1_nil he]
    have hem:=empty_yes he
    clear he
    generalize numZ (numL 10 3 (toL y))=z at CN
    go_wp2_with fail
    refine (CN.out _).mono ?_
    rintro e w' ⟨rfl,rfl⟩
    go_wp2_with fail
    go_ret2
    exact ⟨by rw[HZ.out];rfl,ba⟩
   have hpy:0<y.size:=by omega
   have hem:=empty_no hpy
   have HS1:Hid (_=_):=str1_at hpy
   clear he
   cases hv:numL 10 3 (toL y)with
   |none=>
    rw[hv]at CN HS1
    have HZ:Hid (p4 s.data.toList=none):=by
     show _=_
     rw[HF.out,←HR.out,HS.out,HS1.out]
    clear hv
    go_wp2_with fail
    refine (CN.out _).mono ?_
    rintro e w' ⟨rfl,rfl⟩
    simp only[numZ]
    go_wp2_with fail
    refine (specL1In_no _ _ _ _ (by omega)).mono ?_
    rintro e w' ⟨rfl,rfl⟩
    go_wp2_with fail
    go_ret2
    exact ⟨by rw[HZ.out];rfl,ba⟩
   |some v=>
    rw[hv]at CN HS1
    clear hv
    obtain ⟨x,hx⟩: ∃x:Int,(v:Int)=x:=⟨_,rfl⟩
    have HX:Hid ((v:Int)=x):=hx
    have hx0:0≤x:=by omega
    by_cases hvr:255<v
    ·have HZ:Hid (p4 s.data.toList=none):=by
      show _=_
      rw[HF.out,←HR.out,HS.out,HS1.out]
      simp only
      rw[if_pos (.inl hvr)]
     have hx1:255<x:=by omega
     clear hvr hx
     go_wp2_with fail
     refine (CN.out _).mono ?_
     rintro e w' ⟨rfl,rfl⟩
     simp only[numZ]
     rw[HX.out]
     go_wp2_with fail
     refine (specL1In_no _ _ _ _ (by omega)).mono ?_
     rintro e w' ⟨rfl,rfl⟩
     go_wp2_with fail
     go_ret2
     exact ⟨by rw[HZ.out];rfl,ba⟩
    have hx1:x≤255:=by omega
    have hx2:v<256:=by omega
    have HV:Hid (v<256):=hx2
    obtain ⟨d,hd⟩: ∃d:Nat,y[0].toNat=d:=⟨_,rfl⟩
    by_cases hq:1<y.size∧d=48
    ·have HZ:Hid (p4 s.data.toList=none):=by
      show _=_
      rw[HF.out,←HR.out,HS.out,HS1.out]
      simp only
      rw[if_pos (.inr ⟨hq.1,hd.trans hq.2⟩)]
     obtain ⟨hq1,rfl⟩:=hq
     have hq1':1<(y.size:Int):=by omega
     clear hvr hx hx2
     go_wp2_with fail
     refine (CN.out _).mono ?_
     rintro e w' ⟨rfl,rfl⟩
     simp only[numZ]
     rw[HX.out]
     go_wp2_with fail
     refine (specL1In_yes _ _ _ _ (by omega) (by omega)).mono ?_
     rintro e w' ⟨rfl,rfl⟩
     go_wp2_with fail
     go_ret2
     exact ⟨by rw[HZ.out];rfl,ba⟩
    have HG:Hid (stF (n*256+v) ((fs.drop (k+1)).map toL)=stF 0 (fs.map toL)):=by
     show _=_
     rw[←HR.out,HS.out,HS1.out]
     simp only
     rw[if_neg]
     rintro (h|⟨h,h'⟩)
     ·exact hvr h
     exact hq ⟨h,hd.symm.trans h'⟩
    clear hvr hx hx2
    by_cases hq1:1<y.size
    ·have hq1':1<(y.size:Int):=by omega
     have hq2:((d:Int)==48)=false:=by simp;omega
     clear hq
     go_wp2_with fail
     refine (CN.out _).mono ?_
     rintro e w' ⟨rfl,rfl⟩
     simp only[numZ]
     rw[HX.out]
     go_wp2_with fail
     refine (specL1In_yes _ _ _ _ (by omega) (by omega)).mono ?_
     rintro e w' ⟨rfl,rfl⟩
     go_wp2_with fail
     go_round
     case rel=>exact ⟨k+1,n*256+v,a*256+x,by omega,by go_num,by go_num,by have h1:=HA.out;have h2:=HX.out;omega,by have h1:=HN.out;have h2:=HV.out;rw[Nat.pow_succ];omega,HG.out⟩
     case measure=>simp[intOf];omega
    have hq1': ¬1<(y.size:Int):=by omega
    clear hq
    go_wp2_with fail
    refine (CN.out _).mono ?_
    rintro e w' ⟨rfl,rfl⟩
    simp only[numZ]
    rw[HX.out]
    go_wp2_with fail
    refine (specL1In_yes _ _ _ _ (by omega) (by omega)).mono ?_
    rintro e w' ⟨rfl,rfl⟩
    go_wp2_with fail
    go_round
    case rel=>exact ⟨k+1,n*256+v,a*256+x,by omega,by go_num,by go_num,by have h1:=HA.out;have h2:=HX.out;omega,by have h1:=HN.out;have h2:=HV.out;rw[Nat.pow_succ];omega,HG.out⟩
    case measure=>simp[intOf];omega
  have HZ:Hid (p4 s.data.toList=some n):=by
   show _=_
   rw[HF.out,←HR.out]
   exact st_end fs k n (by have:=HM.out;omega)
  have hki: ¬(k:Int)<4:=by omega
  clear hn ha
  go_wp2_with fail
  go_ret2
  exact ⟨by rw[HZ.out];have h1:=HA.out;simp[numA];exact h1,ba⟩
 have HZ:Hid (p4 s.data.toList=none):=by
  show _=_
  rw[HP.out,if_neg h4]
 have h4':((fs.length:Int)==4)=false:=by simp;omega
 clear h4 HP
 go_enter Tryz.func115,Tryz.ntmps115
 go_wp2_with fail
 refine CF.out.mono ?_
 rintro e wa ⟨va,rfl,OV,ba⟩
 rcases own_shape OV with ⟨h,_⟩|⟨_,g,cap,rfl⟩
 ·omega
 have h0':0<(fs.length:Int):=by omega
 go_wp2_with fail
 refine wp_loop_rounds 1 ?_
 rw[rounds_succ]
 go_wp2_with fail
 go_ret2
 exact ⟨by rw[HZ.out];rfl,ba⟩
def dblN:List UInt8→Option Nat
 |[]=>none
 |c::r=>if c=58∧r.head? =some 58 then some 0 else (dblN r).map (· +1)
theorem dbl_cut: ∀l,cut6L l=(dblN l).map fun k=>(l.take k,l.drop (k+2))
 |[]=>rfl
 |c::r=>by
  rw[cut6L,dblN,dbl_cut r]
  split
  ·cases r<;>simp
  cases dblN r<;>simp
theorem dbl_lt: ∀{l:List UInt8} {k:Nat},dblN l=some k→k+2≤l.length
 |[],k,h=>by cases h
 |c::r,k,h=>by
  rw[dblN]at h
  split at h
  ·rename_i hc
   cases h
   cases r with
   |nil=>simp at hc
   |cons d q=>simp
  cases hr:dblN r with
  |none=>rw[hr]at h;cases h
  |some j=>
   rw[hr]at h
   cases h
   have:=dbl_lt hr
   simp
   omega
theorem dbl_step(s:ByteArray)(k:Nat)(h:k+1<s.size):dblN (s.data.toList.drop k)=if s[k].toNat=58∧s[k+1].toNat=58 then some 0 else (dblN (s.data.toList.drop (k+1))).map (· +1):=by
 have h1:s.data.toList.drop k=s[k]::s.data.toList.drop (k+1):=List.drop_eq_getElem_cons (by simp;omega)
 have h2:s.data.toList.drop (k+1)=s[k+1]::s.data.toList.drop (k+1+1):=List.drop_eq_getElem_cons (by simp;omega)
 rw[h1,dblN]
 have h3:(s.data.toList.drop (k+1)).head? =some s[k+1]:=by rw[h2];rfl
 rw[h3]
 by_cases hc:s[k].toNat=58∧s[k+1].toNat=58
 ·rw[if_pos hc,if_pos ⟨u8_is hc.1,by rw[u8_is (d:=58) hc.2]⟩]
 rw[if_neg hc,if_neg]
 rintro ⟨a,b⟩
 apply hc
 injection b with b
 exact ⟨by rw[a];rfl,by rw[b];rfl⟩
theorem dbl_end(s:ByteArray)(k:Nat)(h: ¬k+1<s.size):dblN (s.data.toList.drop k)=none:=by
 have hl:(s.data.toList.drop k).length≤1:=by simp;omega
 match hd:s.data.toList.drop k,hl with
 |[],_=>rfl
 |[c],_=>simp[dblN]
 |_::_::_,hl=>simp at hl
def dblZ(r:Option Nat):Int:=match r with
 |none=> -1
 |some k=>k
theorem specDouble(s:ByteArray)(w:World)(hs:s.size≤1048576):
  Calls Tryz.prog 97 #[.string s] w fun e w'=>e=.returned (.int .i64 (dblZ (dblN s.data.toList)))∧Below w.heap.size w w':=by
 go_enter Tryz.func97,Tryz.ntmps97
 go_wp2
 go_loopw[3] (fun i wr=> ∃k:Nat,k≤s.size∧i=.int .i64 k∧dblN s.data.toList=(dblN (s.data.toList.drop k)).map (· +k)∧Below w.heap.size w wr) (fun i _=>s.size-(intOf i).toNat)
 case atStart=>exact ⟨0,Nat.zero_le _,rfl,by simp,Below.refl _ _⟩
 obtain ⟨k,hk,rfl,hd,hbel⟩:=hrel
 have HD:Hid (dblN s.data.toList=(dblN (s.data.toList.drop k)).map (· +k)):=hd
 clear hd
 by_cases hlt:k+1<s.size
 ·obtain ⟨c,hc⟩: ∃c:Nat,s[k].toNat=c:=⟨_,rfl⟩
  obtain ⟨d,hd⟩: ∃d:Nat,s[k+1].toNat=d:=⟨_,rfl⟩
  have HS:Hid (dblN (s.data.toList.drop k)=if c=58∧d=58 then some 0 else (dblN (s.data.toList.drop (k+1))).map (· +1)):=by
   show _=_
   rw[dbl_step s k hlt,hc,hd]
  have hki:(k:Int)+1<(s.size:Int):=by omega
  by_cases hcd:c=58∧d=58
  ·have HZ:Hid (dblN s.data.toList=some k):=by
    show _=_
    rw[HD.out,HS.out,if_pos hcd]
    simp
   obtain ⟨rfl,rfl⟩:=hcd
   go_wp2_with fail
   go_ret
   exact ⟨by rw[HZ.out];rfl,hbel⟩
  have HG:Hid (dblN s.data.toList=(dblN (s.data.toList.drop (k+1))).map (· +(k+1))):=by
   show _=_
   rw[HD.out,HS.out,if_neg hcd]
   cases dblN (s.data.toList.drop (k+1))<;>simp<;>omega
  by_cases hc5:c=58
  ·have hd5:((d:Int)==58)=false:=by simp;omega
   subst hc5
   clear hcd
   go_wp2_with fail
   go_roundw
   case rel=>exact ⟨k+1,by omega,by go_num,HG.out,hbel⟩
   case measure=>simp[intOf];omega
  have hc5':((c:Int)==58)=false:=by simp;omega
  clear hcd hc5
  go_wp2_with fail
  go_roundw
  case rel=>exact ⟨k+1,by omega,by go_num,HG.out,hbel⟩
  case measure=>simp[intOf];omega
 have HZ:Hid (dblN s.data.toList=none):=by
  show _=_
  rw[HD.out,dbl_end s k hlt]
  rfl
 have hki: ¬(k:Int)+1<(s.size:Int):=by omega
 go_wp2_with fail
 go_ret
 exact ⟨by rw[HZ.out];rfl,hbel⟩
end Go.Proofs.YtijliddchoehhaaGreatDoor
