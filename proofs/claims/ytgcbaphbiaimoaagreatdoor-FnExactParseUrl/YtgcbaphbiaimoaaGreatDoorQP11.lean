/- RowWalk, Ip6Impl, HostPlain, AppAt, PartsWalk, NamesBack, Loose4Impl. -/
import Derived.Test.YtgcbaphbiaimoaaGreatDoorQP10
import Derived.Maps.AppendAt
import Derived.Sort.OwnSorted
set_option maxHeartbeats 8000000
set_option maxRecDepth 20000
namespace Go.Proofs.YtgcbaphbiaimoaaGreatDoor
open Go.RowKit
def okG(z:List Int):Bool:=z.all fun x=>decide (0≤x∧x≤65535)
def zb(z:List Int):List Bool:=z.map fun x=>decide (x=0)
theorem zp2z{z:List Int}{y:Int}(hy:y∈z)(h: ¬(0≤y∧y≤65535)):okG z=false:=List.all_eq_false.2 ⟨y,hy,by simpa using h⟩
theorem zfnz{z:List Int}(h: ∀x∈z,0≤x∧x≤65535):okG z=true:=List.all_eq_true.2 fun x hx=>decide_eq_true (h x hx)
theorem zp3z(x0 x1 x2 x3 x4 x5 x6 x7:Int)(k:Nat)(hk:k<8)(W:World):
  (Instr.index 24 (.agg #[.int .i64 x0,.int .i64 x1,.int .i64 x2,.int .i64 x3,.int .i64 x4,.int .i64 x5,.int .i64 x6,.int .i64 x7]) (.int .i64 (k:Int))).run Tryz.prog W=.ok (.int .i64 ([x0,x1,x2,x3,x4,x5,x6,x7].getD k 0)) W:=by
 have h:k=0∨k=1∨k=2∨k=3∨k=4∨k=5∨k=6∨k=7:=by omega
 rcases h with rfl|rfl|rfl|rfl|rfl|rfl|rfl|rfl<;>simp[Instr.index,run_underlying Tryz.underlying24,asIntOf,go_sem,part,Tryz.sizeOf3,Tryz.isAgg3]
theorem zgaz(w:World)(x0 x1 x2 x3 x4 x5 x6 x7:Int)(k:Nat)(hk:k<8):
  (w.alloc (.cells #[.int .i64 x0,.int .i64 x1,.int .i64 x2,.int .i64 x3,.int .i64 x4,.int .i64 x5,.int .i64 x6,.int .i64 x7] 24)).cell? ⟨w.heap.size,k,none⟩=some (.int .i64 ([x0,x1,x2,x3,x4,x5,x6,x7].getD k 0)):=by
 rw[World.cell?_alloc_at _ _ _ _ rfl]
 have h:k=0∨k=1∨k=2∨k=3∨k=4∨k=5∨k=6∨k=7:=by omega
 rcases h with rfl|rfl|rfl|rfl|rfl|rfl|rfl|rfl<;>rfl
theorem zdxz(x0 x1 x2 x3 x4 x5 x6 x7:Int)(w:World):
  Calls Tryz.prog 193 #[.agg #[.int .i64 x0,.int .i64 x1,.int .i64 x2,.int .i64 x3,.int .i64 x4,.int .i64 x5,.int .i64 x6,.int .i64 x7]] w fun e w'=>e=.returned (.bool (okG [x0,x1,x2,x3,x4,x5,x6,x7]))∧Below w.heap.size w w':=by
 have HI:Hid (∀k W,k<8→_):=fun k W hk=>zp3z x0 x1 x2 x3 x4 x5 x6 x7 k hk W
 generalize hz:[x0,x1,x2,x3,x4,x5,x6,x7]=z at HI⊢
 have hzl:z.length=8:=by rw[←hz];rfl
 clear hz
 have HZL:Hid (z.length=8):=hzl
 clear hzl
 go_enter Tryz.func193,Tryz.ntmps193
 go_wp2
 go_loop[6] (fun i=> ∃k:Nat,k≤8∧i=.int .i64 k∧ ∀x∈z.take k,0≤x∧x≤65535) (fun i=>8-(intOf i).toNat)
 case atStart=>exact ⟨0,by omega,rfl,fun x hx=>by simp at hx⟩
 obtain ⟨k,hk,rfl,hall⟩:=hrel
 have HA:Hid (∀x∈z.take k,0≤x∧x≤65535):=hall
 clear hall
 by_cases hlt:k<8
 ·have hix:=fun W=>HI.out k W hlt
  have HT:Hid (z.take (k+1)=z.take k++[z.getD k 0]):=jGz z k (by have:=HZL.out;omega)
  have HM:Hid (z.getD k 0∈z):=by
   show _∈_
   rw[List.getD_eq_getElem?_getD,List.getElem?_eq_getElem (by have:=HZL.out;omega)]
   exact List.getElem_mem _
  generalize z.getD k 0=y at hix HT HM
  by_cases hy:0≤y∧y≤65535
  ·obtain ⟨hy0,hy1⟩:=hy
   go_wp2_with fail
   go_round
   case rel=>
    refine ⟨k+1,by omega,by go_num,fun x hx=> ?_⟩
    rw[HT.out]at hx
    rcases List.mem_append.1 hx with h|h
    ·exact HA.out x h
    rw[List.mem_singleton.1 h];exact ⟨hy0,hy1⟩
   case measure=>simp[intOf];omega
  have HF:Hid (okG z=false):=zp2z HM.out hy
  by_cases hy0:y<0
  ·clear hy
   go_wp2_with fail
   go_ret
   exact ⟨by rw[HF.out];rfl,(Below.refl _ _).alloc (Nat.le_refl _) _⟩
  have hy1:65535<y:=by omega
  clear hy
  go_wp2_with fail
  go_ret
  exact ⟨by rw[HF.out];rfl,(Below.refl _ _).alloc (Nat.le_refl _) _⟩
 have HF:Hid (okG z=true):=zfnz fun x hx=>HA.out x (by rw[List.take_of_length_le (by have:=HZL.out;omega)];exact hx)
 go_wp2_with fail
 go_ret
 exact ⟨by rw[HF.out];rfl,(Below.refl _ _).alloc (Nat.le_refl _) _⟩
theorem zfoz(z:List Int)(k:Nat)(h:k<z.length):(zb z).drop k=decide (z.getD k 0=0)::(zb z).drop (k+1):=by
 unfold zb
 rw[List.drop_eq_getElem_cons (by simpa using h)]
 simp[List.getD,h]
theorem zlPz(z:List Int)(k:Nat)(h:z.length≤k):(zb z).drop k=[]:=List.drop_of_length_le (by simpa[zb] using h)
theorem zokz(k f t b:Nat)(z:List Int)(h:k<z.length):vpz k (f,t,b) ((zb z).drop k)=vpz (k+1) (if z.getD k 0=0 then (if t-f<k+1-b then (b,k+1,b)else (f,t,b))else (f,t,k+1)) ((zb z).drop (k+1)):=by
 rw[zfoz z k h,vpz]
 by_cases h0:z.getD k 0=0
 ·rw[if_pos h0,decide_eq_true h0];rfl
 rw[if_neg h0,decide_eq_false h0];rfl
def rowV(r:Nat×Nat×Nat):Value:=.tuple #[.int .i64 (r.1:Int),.int .i64 (r.2.1:Int)]
theorem zkfz(x0 x1 x2 x3 x4 x5 x6 x7:Int)(w:World):
  Calls Tryz.prog 194 #[.agg #[.int .i64 x0,.int .i64 x1,.int .i64 x2,.int .i64 x3,.int .i64 x4,.int .i64 x5,.int .i64 x6,.int .i64 x7]] w fun e w'=>e=.returned (rowV (vpz 0 (0,0,0) (zb [x0,x1,x2,x3,x4,x5,x6,x7])))∧Below w.heap.size w w':=by
 have HI:Hid (∀k W,k<8→_):=fun k W hk=>zp3z x0 x1 x2 x3 x4 x5 x6 x7 k hk W
 generalize hz:[x0,x1,x2,x3,x4,x5,x6,x7]=z at HI⊢
 have hzl:z.length=8:=by rw[←hz];rfl
 clear hz
 have HZL:Hid (z.length=8):=hzl
 clear hzl
 go_enter Tryz.func194,Tryz.ntmps194
 go_wp2
 go_loop[4,5,6,10] (fun x y v i=> ∃k f t b:Nat,k≤8∧i=.int .i64 k∧x=.int .i64 f∧y=.int .i64 t∧v=.int .i64 b∧f≤t∧t≤k∧b≤k∧vpz k (f,t,b) ((zb z).drop k)=vpz 0 (0,0,0) (zb z)) (fun _ _ _ i=>8-(intOf i).toNat)
 case atStart=>exact ⟨0,0,0,0,by omega,rfl,rfl,rfl,rfl,by omega,by omega,by omega,rfl⟩
 obtain ⟨k,f,t,b,hk,rfl,rfl,rfl,rfl,h1,h2,h3,hr⟩:=hrel
 have HR:Hid (vpz k (f,t,b) ((zb z).drop k)=vpz 0 (0,0,0) (zb z)):=hr
 clear hr
 by_cases hlt:k<8
 ·have hix:=fun W=>HI.out k W hlt
  have HS:Hid (_=_):=zokz k f t b z (by have:=HZL.out;omega)
  generalize z.getD k 0=y at hix HS
  by_cases hy:y=0
  ·subst hy
   by_cases hc:t-f<k+1-b
   ·have HG:Hid (vpz (k+1) (b,k+1,b) ((zb z).drop (k+1))=vpz 0 (0,0,0) (zb z)):=by
     show _=_
     rw[←HR.out,HS.out,if_pos rfl,if_pos hc]
    have hc':(t:Int)-f<(k:Int)+1-b:=by omega
    clear hc
    go_wp2_with fail
    go_round
    case rel=>exact ⟨k+1,b,k+1,b,by omega,by go_num,by go_num,by go_num,by go_num,by omega,by omega,by omega,HG.out⟩
    case measure=>simp[intOf];omega
   have HG:Hid (vpz (k+1) (f,t,b) ((zb z).drop (k+1))=vpz 0 (0,0,0) (zb z)):=by
    show _=_
    rw[←HR.out,HS.out,if_pos rfl,if_neg hc]
   have hc': ¬(t:Int)-f<(k:Int)+1-b:=by omega
   clear hc
   go_wp2_with fail
   go_round
   case rel=>exact ⟨k+1,f,t,b,by omega,by go_num,by go_num,by go_num,by go_num,by omega,by omega,by omega,HG.out⟩
   case measure=>simp[intOf];omega
  have HG:Hid (vpz (k+1) (f,t,k+1) ((zb z).drop (k+1))=vpz 0 (0,0,0) (zb z)):=by
   show _=_
   rw[←HR.out,HS.out,if_neg hy]
  have hy':(y==0)=false:=by simpa using hy
  clear hy
  go_wp2_with fail
  go_round
  case rel=>exact ⟨k+1,f,t,k+1,by omega,by go_num,by go_num,by go_num,by go_num,by omega,by omega,by omega,HG.out⟩
  case measure=>simp[intOf];omega
 have HG:Hid (vpz 0 (0,0,0) (zb z)=(f,t,b)):=by
  show _=_
  rw[←HR.out,zlPz z k (by have:=HZL.out;omega)]
  rfl
 have hki: ¬(k:Int)<8:=by omega
 go_wp2_with fail
 go_ret2
 exact ⟨by rw[HG.out];rfl,(Below.refl _ _).alloc (Nat.le_refl _) _⟩
theorem zp4z{z:List Int}{k:Nat}(h:k<z.length)(h0:z.getD k 0=0):runZ ((zb z).drop k)=runZ ((zb z).drop (k+1))+1:=by
 rw[zfoz z k h,decide_eq_true h0];rfl
theorem zsdz{z:List Int}{k:Nat}(h:k<z.length)(h0: ¬z.getD k 0=0):runZ ((zb z).drop k)=0:=by
 rw[zfoz z k h,decide_eq_false h0];rfl
theorem zp5z{z:List Int}{k:Nat}(h:z.length≤k):runZ ((zb z).drop k)=0:=by
 rw[zlPz z k h];rfl
theorem zolz(a f t:Nat)(z:List Int)(h:a<z.length):xEz a (f,t) ((zb z).drop a)=xEz (a+1) (if 1<runZ ((zb z).drop a)∧t-f<runZ ((zb z).drop a)then (a,a+runZ ((zb z).drop a))else (f,t)) ((zb z).drop (a+1)):=by
 rw[zfoz z a h,xEz]
def rowW(r:Nat×Nat):Value:=.tuple #[.int .i64 (r.1:Int),.int .i64 (r.2:Int)]
theorem zsez(x0 x1 x2 x3 x4 x5 x6 x7:Int)(w:World):
  Calls Tryz.prog 139 #[.agg #[.int .i64 x0,.int .i64 x1,.int .i64 x2,.int .i64 x3,.int .i64 x4,.int .i64 x5,.int .i64 x6,.int .i64 x7]] w fun e w'=>e=.returned (rowW (xEz 0 (8,8) (zb [x0,x1,x2,x3,x4,x5,x6,x7])))∧Below w.heap.size w w':=by
 have HC:Hid (∀k,k<8→(w.alloc (.cells #[.int .i64 x0,.int .i64 x1,.int .i64 x2,.int .i64 x3,.int .i64 x4,.int .i64 x5,.int .i64 x6,.int .i64 x7] 24)).cell? ⟨w.heap.size,k,none⟩=some (.int .i64 ([x0,x1,x2,x3,x4,x5,x6,x7].getD k 0))):=fun k hk=>zgaz w x0 x1 x2 x3 x4 x5 x6 x7 k hk
 generalize hz:[x0,x1,x2,x3,x4,x5,x6,x7]=z at HC⊢
 have hzl:z.length=8:=by rw[←hz];rfl
 clear hz
 have HZL:Hid (z.length=8):=hzl
 clear hzl
 go_enter Tryz.func139,Tryz.ntmps139
 go_wp2
 go_loop[4,5,6] (fun x y i=> ∃a f t:Nat,a≤8∧i=.int .i64 a∧x=.int .i64 f∧y=.int .i64 t∧f≤t∧t≤8∧xEz a (f,t) ((zb z).drop a)=xEz 0 (8,8) (zb z)) (fun _ _ i=>8-(intOf i).toNat)
 case atStart=>exact ⟨0,8,8,by omega,rfl,rfl,rfl,by omega,by omega,rfl⟩
 obtain ⟨a,f,t,ha,rfl,rfl,rfl,h1,h2,hr⟩:=hrel
 have HR:Hid (xEz a (f,t) ((zb z).drop a)=xEz 0 (8,8) (zb z)):=hr
 clear hr
 by_cases hlt:a<8
 ·have hai:(a:Int)<8:=by omega
  have HS:Hid (_=_):=zolz a f t z (by have:=HZL.out;omega)
  go_wp2_with fail
  go_loop[7] (fun b=> ∃j:Nat,a≤j∧j≤8∧b=.int .i64 j∧j-a+runZ ((zb z).drop j)=runZ ((zb z).drop a)) (fun b=>8-(intOf b).toNat)
  case atStart=>exact ⟨a,by omega,by omega,rfl,by omega⟩
  obtain ⟨j,hj1,hj2,rfl,hz⟩:=hrel
  have HZ:Hid (j-a+runZ ((zb z).drop j)=runZ ((zb z).drop a)):=hz
  clear hz
  by_cases hjlt:j<8
  ·have hc:=HC.out j hjlt
   have HY:Hid (z.getD j 0=0→runZ ((zb z).drop j)=runZ ((zb z).drop (j+1))+1):=fun h=>zp4z (by have:=HZL.out;omega) h
   have HN:Hid (¬z.getD j 0=0→runZ ((zb z).drop j)=0):=fun h=>zsdz (by have:=HZL.out;omega) h
   have hji:(j:Int)<8:=by omega
   generalize z.getD j 0=y at hc HY HN
   by_cases hy:y=0
   ·subst hy
    go_wp2_with fail
    go_round
    case rel=>exact ⟨j+1,by omega,by omega,by go_num,by have h1:=HZ.out;have h2:=HY.out rfl;omega⟩
    case measure=>simp[intOf];omega
   have HE:Hid (runZ ((zb z).drop a)=j-a):=by
    show _=_
    have h1:=HZ.out
    have h2:=HN.out hy
    omega
   have hy':(y==0)=false:=by simpa using hy
   clear hy
   by_cases hq:1<j-a∧t-f<j-a
   ·have HG:Hid (xEz (a+1) (a,j) ((zb z).drop (a+1))=xEz 0 (8,8) (zb z)):=by
     show _=_
     rw[←HR.out,HS.out,HE.out,if_pos hq,show a+(j-a)=j by omega]
    have hq1:1<(j:Int)-a:=by omega
    have hq2:(t:Int)-f<(j:Int)-a:=by omega
    clear hq
    go_wp2_with fail
    go_round
    case rel=>exact ⟨a+1,a,j,by omega,by go_num,by go_num,by go_num,by omega,by omega,HG.out⟩
    case measure=>simp[intOf];omega
   have HG:Hid (xEz (a+1) (f,t) ((zb z).drop (a+1))=xEz 0 (8,8) (zb z)):=by
    show _=_
    rw[←HR.out,HS.out,HE.out,if_neg hq]
   by_cases hq0:1<j-a
   ·have hq1:1<(j:Int)-a:=by omega
    have hq2: ¬(t:Int)-f<(j:Int)-a:=by omega
    clear hq hq0
    go_wp2_with fail
    go_round
    case rel=>exact ⟨a+1,f,t,by omega,by go_num,by go_num,by go_num,by omega,by omega,HG.out⟩
    case measure=>simp[intOf];omega
   have hq1: ¬1<(j:Int)-a:=by omega
   clear hq hq0
   go_wp2_with fail
   go_round
   case rel=>exact ⟨a+1,f,t,by omega,by go_num,by go_num,by go_num,by omega,by omega,HG.out⟩
   case measure=>simp[intOf];omega
  have HE:Hid (runZ ((zb z).drop a)=j-a):=by
   show _=_
   have h1:=HZ.out
   have h2:=zp5z (z:=z) (k:=j) (by have:=HZL.out;omega)
   omega
  have hji: ¬(j:Int)<8:=by omega
  by_cases hq:1<j-a∧t-f<j-a
  ·have HG:Hid (xEz (a+1) (a,j) ((zb z).drop (a+1))=xEz 0 (8,8) (zb z)):=by
    show _=_
    rw[←HR.out,HS.out,HE.out,if_pos hq,show a+(j-a)=j by omega]
   have hq1:1<(j:Int)-a:=by omega
   have hq2:(t:Int)-f<(j:Int)-a:=by omega
   clear hq
   go_wp2_with fail
   go_round
   case rel=>exact ⟨a+1,a,j,by omega,by go_num,by go_num,by go_num,by omega,by omega,HG.out⟩
   case measure=>simp[intOf];omega
  have HG:Hid (xEz (a+1) (f,t) ((zb z).drop (a+1))=xEz 0 (8,8) (zb z)):=by
   show _=_
   rw[←HR.out,HS.out,HE.out,if_neg hq]
  by_cases hq0:1<j-a
  ·have hq1:1<(j:Int)-a:=by omega
   have hq2: ¬(t:Int)-f<(j:Int)-a:=by omega
   clear hq hq0
   go_wp2_with fail
   go_round
   case rel=>exact ⟨a+1,f,t,by omega,by go_num,by go_num,by go_num,by omega,by omega,HG.out⟩
   case measure=>simp[intOf];omega
  have hq1: ¬1<(j:Int)-a:=by omega
  clear hq hq0
  go_wp2_with fail
  go_round
  case rel=>exact ⟨a+1,f,t,by omega,by go_num,by go_num,by go_num,by omega,by omega,HG.out⟩
  case measure=>simp[intOf];omega
 have HG:Hid (xEz 0 (8,8) (zb z)=(f,t)):=by
  show _=_
  rw[←HR.out,zlPz z a (by have:=HZL.out;omega)]
  rfl
 have hai: ¬(a:Int)<8:=by omega
 go_wp2_with fail
 go_ret2
 exact ⟨by rw[HG.out];rfl,(Below.refl _ _).alloc (Nat.le_refl _) _⟩
def xbz(z:List Int):List UInt8:=if okG z=true then ip6T (z.map Int.toNat) (vpz 0 (0,0,0) (zb z)).1 (vpz 0 (0,0,0) (zb z)).2.1 else []
theorem ziUz{z:List Int}(h:okG z=true): ∀x∈z,0≤x∧x≤65535:=by
 unfold okG at h
 rw[List.all_eq_true]at h
 intro x hx
 simpa using h x hx
theorem zeqz(x0 x1 x2 x3 x4 x5 x6 x7:Int):zcNz (zb [x0,x1,x2,x3,x4,x5,x6,x7])=true:=zr6z _ _ _ _ _ _ _ _
theorem ziVz{z:List Int}(h:zcNz (zb z)=true):(vpz 0 (0,0,0) (zb z)).1≤(vpz 0 (0,0,0) (zb z)).2.1∧(vpz 0 (0,0,0) (zb z)).2.1≤8:=by
 unfold zcNz at h
 simp only[Bool.and_eq_true,decide_eq_true_eq]at h
 exact h.1
theorem zgbz{w:World}{B:Nat}{z:List Int}(hc: ∀k,k<8→w.cell? ⟨B,k,none⟩=some (.int .i64 (z.getD k 0)))(hz:z.length=8)(ha: ∀x∈z,0≤x∧x≤65535)(off m:Nat)(h:off+m≤8):
  zf9z w B off (((z.map Int.toNat).drop off).take m)∧(((z.map Int.toNat).drop off).take m).length=m∧ ∀x∈((z.map Int.toNat).drop off).take m,x<65536:=by
 have hl:(((z.map Int.toNat).drop off).take m).length=m:=by simp;omega
 refine ⟨fun j hj=> ?_,hl,fun x hx=> ?_⟩
 ·rw[hl]at hj
  rw[hc (off+j) (by omega)]
  have h1:z[off+j]'(by omega)∈z:=List.getElem_mem _
  have h2:=ha _ h1
  simp only[List.getD_eq_getElem?_getD]
  rw[List.getElem?_eq_getElem (by omega),List.getElem?_eq_getElem (by omega),List.getElem_take,List.getElem_drop,List.getElem_map]
  simp only[Option.getD_some]
  congr 2
  omega
 have h1:=List.mem_of_mem_drop (List.mem_of_mem_take hx)
 obtain ⟨y,hy,rfl⟩:=List.mem_map.1 h1
 have:=ha y hy
 omega
theorem len8:Tryz.prog.arrayLen 24=8:=by kernel_rfl
theorem ztbz:Tryz.prog.elem 24=3:=by kernel_rfl
theorem zp6z:Tryz.prog.underlying 24=some (.array (Tryz.prog.arrayLen 24) (Tryz.prog.elem 24)):=by kernel_rfl
theorem zkgz(B f:Nat)(hf:f≤8)(W:World):(Instr.sliceAt 24 (.pointer (some ⟨B,0,none⟩)) none (some (.int .i64 (f:Int))) (some (.int .i64 (f:Int)))).run Tryz.prog W=.ok (.slice (some ⟨B,0,none⟩) f f) W:=by
 rw[run_sliceAt_array_hm (P:=Tryz.prog) W 24 ⟨B,0,none⟩ zp6z .i64 .i64 f f (by omega) (by omega) (by rw[len8];omega),ztbz]
 simp[slicedAt,Tryz.sizeOf3,Result.andThen,Addr.add_lit]
theorem znez(B t:Nat)(ht:t≤8)(W:World):(Instr.sliceAt 24 (.pointer (some ⟨B,0,none⟩)) (some (.int .i64 (t:Int))) none none).run Tryz.prog W=.ok (.slice (some ⟨B,if 8=t then 0 else t,none⟩) (8-t) (8-t)) W:=by
 rw[run_sliceAt_array_l (P:=Tryz.prog) W 24 ⟨B,0,none⟩ zp6z .i64 t (by omega) (by rw[len8];omega),ztbz,len8]
 by_cases h:8=t
 ·subst h
  simp[slicedAt,Tryz.sizeOf3,Result.andThen]
 simp[slicedAt,Tryz.sizeOf3,Result.andThen,Addr.add_lit,h]
theorem zkhz(x0 x1 x2 x3 x4 x5 x6 x7:Int)(w:World)(hT:zJz w):
  Calls Tryz.prog 143 #[.agg #[.int .i64 x0,.int .i64 x1,.int .i64 x2,.int .i64 x3,.int .i64 x4,.int .i64 x5,.int .i64 x6,.int .i64 x7]] w fun e w'=>e=.returned (.string ⟨(xbz [x0,x1,x2,x3,x4,x5,x6,x7]).toArray⟩)∧Below w.heap.size w w':=by
 have CG:Hid (∀W,CB 193 #[.agg #[.int .i64 x0,.int .i64 x1,.int .i64 x2,.int .i64 x3,.int .i64 x4,.int .i64 x5,.int .i64 x6,.int .i64 x7]] W (.bool (okG [x0,x1,x2,x3,x4,x5,x6,x7]))):=fun W=>zdxz x0 x1 x2 x3 x4 x5 x6 x7 W
 have CR:Hid (∀W,CB 194 #[.agg #[.int .i64 x0,.int .i64 x1,.int .i64 x2,.int .i64 x3,.int .i64 x4,.int .i64 x5,.int .i64 x6,.int .i64 x7]] W (rowV (vpz 0 (0,0,0) (zb [x0,x1,x2,x3,x4,x5,x6,x7])))):=fun W=>zkfz x0 x1 x2 x3 x4 x5 x6 x7 W
 have HT:Hid (zJz w):=hT
 clear hT
 have hrow:=ziVz (zeqz x0 x1 x2 x3 x4 x5 x6 x7)
 cases hok:okG [x0,x1,x2,x3,x4,x5,x6,x7]with
 |false=>
  have HL:Hid (xbz [x0,x1,x2,x3,x4,x5,x6,x7]=[]):=by show _=_;unfold xbz;rw[hok];rfl
  rw[hok]at CG
  generalize xbz [x0,x1,x2,x3,x4,x5,x6,x7]=L at HL⊢
  clear hok hrow CR
  go_enter Tryz.func143,Tryz.ntmps143
  go_wp2_with fail
  refine (CG.out _).mono ?_
  rintro e w1 ⟨rfl,b1⟩
  have B1:Below w.heap.size w w1:=((Below.refl _ w).alloc (Nat.le_refl _) _).trans (b1.mono (by simp))
  clear b1
  go_wp2_with fail
  go_ret
  exact ⟨by rw[HL.out];rfl,B1⟩
 |true=>
  have HL:Hid (xbz [x0,x1,x2,x3,x4,x5,x6,x7]=ip6T ([x0,x1,x2,x3,x4,x5,x6,x7].map Int.toNat) (vpz 0 (0,0,0) (zb [x0,x1,x2,x3,x4,x5,x6,x7])).1 (vpz 0 (0,0,0) (zb [x0,x1,x2,x3,x4,x5,x6,x7])).2.1):=by show _=_;unfold xbz;rw[if_pos hok]
  have HA:Hid (∀x∈[x0,x1,x2,x3,x4,x5,x6,x7],0≤x∧x≤65535):=ziUz hok
  rw[hok]at CG
  clear hok
  generalize vpz 0 (0,0,0) (zb [x0,x1,x2,x3,x4,x5,x6,x7])=r at HL CR hrow
  obtain ⟨f,t,b⟩:=r
  simp only[rowV]at HL CR hrow
  obtain ⟨hr1,hr2⟩:=hrow
  generalize xbz [x0,x1,x2,x3,x4,x5,x6,x7]=L at HL⊢
  go_enter Tryz.func143,Tryz.ntmps143
  go_wp2_with fail
  refine (CG.out _).mono ?_
  rintro e w1 ⟨rfl,b1⟩
  have B1:Below w.heap.size w w1:=((Below.refl _ w).alloc (Nat.le_refl _) _).trans (b1.mono (by simp))
  have HC1:Hid (∀k,k<8→w1.cell? ⟨w.heap.size,k,none⟩=some (.int .i64 ([x0,x1,x2,x3,x4,x5,x6,x7].getD k 0))):=fun k hk=>cell_later b1 (zgaz w x0 x1 x2 x3 x4 x5 x6 x7 k hk)
  clear b1
  have a0:w1.cell? ⟨w.heap.size,0,none⟩=some (.int .i64 x0):=HC1.out 0 (by decide)
  have a1:w1.cell? ⟨w.heap.size,1,none⟩=some (.int .i64 x1):=HC1.out 1 (by decide)
  have a2:w1.cell? ⟨w.heap.size,2,none⟩=some (.int .i64 x2):=HC1.out 2 (by decide)
  have a3:w1.cell? ⟨w.heap.size,3,none⟩=some (.int .i64 x3):=HC1.out 3 (by decide)
  have a4:w1.cell? ⟨w.heap.size,4,none⟩=some (.int .i64 x4):=HC1.out 4 (by decide)
  have a5:w1.cell? ⟨w.heap.size,5,none⟩=some (.int .i64 x5):=HC1.out 5 (by decide)
  have a6:w1.cell? ⟨w.heap.size,6,none⟩=some (.int .i64 x6):=HC1.out 6 (by decide)
  have a7:w1.cell? ⟨w.heap.size,7,none⟩=some (.int .i64 x7):=HC1.out 7 (by decide)
  go_wp2_with fail
  refine (CR.out _).mono ?_
  rintro e w2 ⟨rfl,b2⟩
  have B2:Below w.heap.size w w2:=B1.trans (b2.mono B1.size)
  have HC2:Hid (∀k,k<8→w2.cell? ⟨w.heap.size,k,none⟩=some (.int .i64 ([x0,x1,x2,x3,x4,x5,x6,x7].getD k 0))):=fun k hk=>cell_later b2 (HC1.out k hk)
  have HT2:Hid (zJz w2):=zxz HT.out B2
  clear a0 a1 a2 a3 a4 a5 a6 a7 b2 B1 HC1 CG CR
  by_cases h2:(t:Int)-f<2
  ·obtain ⟨g1,g2,g3⟩:=zgbz HC2.out rfl HA.out 0 8 (by decide)
   have CT:=xNz w.heap.size 0 8 _ w2 (by omega) g3 g1 HT2.out
   rw[g2]at CT
   have CT:Hid (CB 195 #[.slice (some ⟨w.heap.size,0,none⟩) 8 8] w2 (.string ⟨L.toArray⟩)):=by
    rw[HL.out]
    unfold ip6T
    rw[if_pos (by omega)]
    exact CT
   clear g1 g2 g3 HL
   go_wp2_with fail
   refine CT.out.mono ?_
   rintro e w3 ⟨rfl,b3⟩
   have B3:=B2.trans (b3.mono B2.size)
   clear b3
   go_wp2_with fail
   go_ret
   exact ⟨rfl,B3⟩
  obtain ⟨g1,g2,g3⟩:=zgbz HC2.out rfl HA.out 0 f (by omega)
  have CT1:=xNz w.heap.size 0 f _ w2 (by omega) g3 g1 HT2.out
  rw[g2,List.drop_zero]at CT1
  clear CT1
  have CT1:Hid (∀W,Below w2.heap.size w2 W→CB 195 #[.slice (some ⟨w.heap.size,0,none⟩) f f] W (.string ⟨(gtL (([x0,x1,x2,x3,x4,x5,x6,x7].map Int.toNat).take f)).toArray⟩)):=fun W hb=>by
   have h:=xNz w.heap.size 0 f _ W (by omega) g3 (g1.later hb) (zxz HT2.out hb)
   rw[g2,List.drop_zero]at h
   exact h
  have CT2:Hid (∀W,Below w2.heap.size w2 W→CB 195 #[.slice (some ⟨w.heap.size,if 8=t then 0 else t,none⟩) (8-t) (8-t)] W (.string ⟨(gtL (([x0,x1,x2,x3,x4,x5,x6,x7].map Int.toNat).drop t)).toArray⟩)):=fun W hb=>by
   obtain ⟨k1,k2,k3⟩:=zgbz HC2.out rfl HA.out t (8-t) (by omega)
   have k4:zf9z w2 w.heap.size (if 8=t then 0 else t) ((([x0,x1,x2,x3,x4,x5,x6,x7].map Int.toNat).drop t).take (8-t)):=by
    by_cases h8:8=t
    ·intro j hj
     rw[k2]at hj
     omega
    rw[if_neg h8]
    exact k1
   have h:=xNz w.heap.size (if 8=t then 0 else t) (8-t) _ W (by omega) k3 (k4.later hb) (zxz HT2.out hb)
   rw[k2,List.take_of_length_le (by simp)]at h
   exact h
  have HLL:Hid (L=gtL (([x0,x1,x2,x3,x4,x5,x6,x7].map Int.toNat).take f)++58::58::gtL (([x0,x1,x2,x3,x4,x5,x6,x7].map Int.toNat).drop t)):=by
   show _=_
   rw[HL.out]
   unfold ip6T
   rw[if_neg (by omega)]
  clear g1 g2 g3 HL
  have s1:=(zaqz (([x0,x1,x2,x3,x4,x5,x6,x7].map Int.toNat).take f)).1
  have s2:=(zaqz (([x0,x1,x2,x3,x4,x5,x6,x7].map Int.toNat).drop t)).1
  rw[List.length_take]at s1
  rw[List.length_drop]at s2
  have h8:([x0,x1,x2,x3,x4,x5,x6,x7].map Int.toNat).length=8:=rfl
  rw[h8]at s1 s2
  clear h8
  generalize gtL (([x0,x1,x2,x3,x4,x5,x6,x7].map Int.toNat).take f)=L1 at CT1 HLL s1
  generalize gtL (([x0,x1,x2,x3,x4,x5,x6,x7].map Int.toNat).drop t)=L2 at CT2 HLL s2
  have z1:(⟨L1.toArray⟩:ByteArray).size≤100:=by show L1.toArray.size≤100;rw[List.size_toArray];omega
  have z2:(⟨L2.toArray⟩:ByteArray).size≤100:=by show L2.toArray.size≤100;rw[List.size_toArray];omega
  have HLT:Hid ((⟨L.toArray⟩:ByteArray)=⟨L1.toArray⟩++⟨#[58,58]⟩++⟨L2.toArray⟩):=by
   show _=_
   rw[HLL.out,show (⟨#[58,58]⟩:ByteArray)=⟨[58,58].toArray⟩ from rfl,yoz,yoz]
   simp
  generalize (⟨L1.toArray⟩:ByteArray)=T1 at CT1 HLT z1
  generalize (⟨L2.toArray⟩:ByteArray)=T2 at CT2 HLT z2
  clear HLL s1 s2
  have z0:(⟨#[58,58]⟩:ByteArray).size=2:=rfl
  have CT1d:Hid (Calls Tryz.prog 195 #[.slice (some ⟨w.heap.size,0,none⟩) f f] w2.drew fun e w'=>e=.returned (.string T1)∧Below w2.heap.size w2 w'):=(CT1.out w2.drew (Below.drew (Below.refl _ w2))).mono fun e w' h=>⟨h.1,(Below.drew (Below.refl _ w2)).trans h.2⟩
  have sl1:=zkgz w.heap.size f (by omega)
  have sl2:=znez w.heap.size t hr2
  generalize (if 8=t then 0 else t)=o2 at sl2 CT2
  go_wp2_with fail
  go_region_with (go_at_call 195;first|(with_reducible refine CT1d.out.mono ?_;rintro e w3 ⟨rfl,k3⟩)|(with_reducible refine (CT2.out _ k3).mono ?_;rintro e w4 ⟨rfl,b4⟩))
  all_goals
   go_wp2_with fail
   go_ret
   exact ⟨by rw[HLT.out];rfl,(B2.trans (k3.mono B2.size)).trans (b4.mono (Nat.le_trans B2.size k3.size))⟩
structure HV where
 k:Int
 s:ByteArray
 n:Int
 z:List Int
def xsz:List Int:=[0,0,0,0,0,0,0,0]
def hOk(h:HV):Bool:=
 if h.k=1 then decide (z6z h.s=some h.s.data.toList)&& !juz h.s&&decide (h.n=0)&&decide (h.z=xsz)
 else if h.k=2 then decide (h.s.size=0)&&decide (0≤h.n∧h.n<4294967296)&&decide (h.z=xsz)
 else if h.k=3 then decide (h.s.size=0)&&decide (h.n=0)&&okG h.z
 else false
def hTx(h:HV):ByteArray:=if hOk h=true then (if h.k=1 then h.s else if h.k=2 then xaz h.n else ⟨(91::(xbz h.z++[93])).toArray⟩)else ⟨#[]⟩
structure jjz where
 t:Nat
 c:Int
 l:List UInt8
 n:Nat
 g:List Nat
def jjz.bad(c:Int):jjz:=⟨0,c,[],0,[]⟩
def jjz.nm(l:List UInt8):jjz:=⟨1,0,l,0,[]⟩
def jjz.fo(n:Nat):jjz:=⟨2,0,[],n,[]⟩
def jjz.si(g:List Nat):jjz:=⟨3,0,[],0,g⟩
def unB(s:ByteArray):ByteArray:=⟨(unL s.data.toList).toArray⟩
def vlz(n:List UInt8):jjz:=if juz ⟨n.toArray⟩=true then (match loA ⟨n.toArray⟩with
 |none=> .bad 4
 |some v=> .fo v)else .nm n
def xCz(s:ByteArray):jjz:=match z6z (unB s)with
 |none=> .bad 3
 |some n=>vlz n
def zhNz(r:Option (List Nat)):jjz:=match r with
 |none=> .bad 2
 |some g=> .si g
def xOz(r:List UInt8):jjz:=if r.getLast? =some 93 then zhNz (yEz r.dropLast)else .bad 2
def zmz(s:ByteArray):jjz:=match s.data.toList with
 |[]=> .bad 1
 |c::r=>if c=91 then xOz r else xCz s
def rV(r:jjz):HV:=match r.t with
 |0=>⟨0,⟨#[]⟩,0,xsz⟩
 |1=>⟨1,⟨r.l.toArray⟩,0,xsz⟩
 |2=>⟨2,⟨#[]⟩,r.n,xsz⟩
 |_=>⟨3,⟨#[]⟩,0,r.g.map fun (x:Nat)=>(x:Int)⟩
def rC(r:jjz):Int:=r.c
theorem zhOz{s:ByteArray}(h:s.size=0):zmz s=.bad 1:=by
 have e:s.data.toList=[]:=List.eq_nil_of_length_eq_zero (by simpa using h)
 unfold zmz
 rw[e]
theorem zhPz{s:ByteArray}(h:0<s.size)(h0:s[0].toNat=91):zmz s=xOz (s.extract 1 s.size).data.toList:=by
 have e:=jqz s h
 unfold zmz
 rw[e]
 simp only
 rw[if_pos (jiz h0)]
theorem zcQz{s:ByteArray}(h:0<s.size)(h0: ¬s[0].toNat=91):zmz s=xCz s:=by
 have e:=jqz s h
 unfold zmz
 rw[e]
 simp only
 rw[if_neg (zpsz h0)]
theorem zkiz(s:ByteArray):(unB s).size≤s.size:=by
 unfold unB
 show (unL s.data.toList).toArray.size≤s.size
 rw[List.size_toArray]
 have:=ztqz s.data.toList
 simpa using this
theorem zbKz(s:ByteArray):(⟨s.data.toList.toArray⟩:ByteArray)=s:=by
 apply zIz
 simp[toL]
theorem zdyz{s:ByteArray}{n:List UInt8}(h:z6z s=some n):n.length≤253:=by
 unfold z6z vsz at h
 split at h
 ·split at h
  ·cases h;assumption
  cases h
 cases h
def nmOk(s:ByteArray):Bool:=decide (z6z s=some s.data.toList)&& !juz s
theorem yTz{P:Program}(wr:World){ops:Array Oper}{rest:List Oper}{o:Oper}{a:Act}{Q:Exit→Act→World→Prop}
  (hg:o.guard=none) (s x:Operand) (t:TypeId) (hop:o.op=.call {callee:=.builtin .append,args:= #[s,x],argTypes:= #[t,t]})
  (B:Nat) (e:TypeId) (z:Value) (bytes:Nat) (ht:P.underlying t=some (.slice e)) (hinfo:(P.info? e).map (fun i=>(i.zero,i.size,i.bytes))=some (some z,1,bytes)) (hz:z.cells.size=1)
  (v:Value) (n:Nat) (xs:List Value) (hs:a.eval s=v) (hown:wr.ownsRow B e 1 v n xs)
  (cs:Array Value) (m:Nat) (hm:cs.size=m) (hx:a.eval x=.slice (some ⟨wr.heap.size,0,none⟩) m m) (h1: ∀u∈cs.toList,u.oneCell'=true)
  (hroom:(n+m)*bytes≤140737488355328) (hroom':n+m≤maxLen) (hB:B≤wr.heap.size)
  (hK: ∀v' w1,w1.ownsRow B e 1 v' (n+m) (xs++cs.toList)→wr.grownBy w1 v.ownBlock→(v'.ownBlock=v.ownBlock∨v'.ownBlock=some (wr.heap.size+1))→wpList P ops Q rest (a.put o.dst v') w1):
  wpList P ops Q (o::rest) a (wr.alloc (.cells cs e)):=by
 obtain ⟨i0,hi,hz0,hz1,hz2⟩:=info_parts hinfo
 refine wpList_append_own_at (wr.alloc (.cells cs e)) hg s x t hop B e i0 z 1 bytes ht hi hz0 hz1 hz2 hz (by decide) v n xs hs (hown.alloc _) ⟨wr.heap.size,0,none⟩ m m cs.toList hx (by simp[hm]) ?_ h1 hroom' hroom (by simp;omega) ?_
 ·intro j u hj
  rw[Addr.add_lit,Nat.zero_add]
  rw[World.cell?_alloc_at _ _ _ _ rfl]
  simpa using hj
 intro v' w1 h1 h2 _ h4
 refine hK v' w1 h1 ⟨h2.os,h2.tape,h2.output,?_,fun k hk hne=>(h2.block k (by simp;omega) hne).trans (Below.heap_alloc wr _ k hk)⟩ (by simpa using h4)
 have:=h2.size
 simp at this
 omega
theorem zp7z{w:World}{B B':Nat}{e:TypeId}{size:Nat}{v:Value}{n:Nat}{xs:List Value}(h:w.ownsRow B e size v n xs)(hb:B'≤B):w.ownsRow B' e size v n xs:=
 ⟨h.1,h.2.imp id fun ⟨g,cap,cur,h1,h2,h3⟩=>⟨g,cap,cur,h1,Nat.le_trans hb h2,h3⟩⟩
def zp8z(s:ByteArray):List ByteArray:=if s.size=0 then []else (zaz s 46).reverse
theorem zePz(s:ByteArray)(b:Int):0<(zaz s b).length:=by simp[zaz]
def zdzz(l:List UInt8):Prop:= ∀c∈l,c≠46
theorem ziWz: ∀{a b r q:List UInt8},zdzz a→zdzz b→(r=[]∨ ∃t,r=46::t)→(q=[]∨ ∃t,q=46::t)→a++r=b++q→a=b∧r=q
 |[],[],r,q,_,_,_,_,h=>⟨rfl,h⟩
 |[],y::b,r,q,_,hb,hr,_,h=>by
  exfalso
  rcases hr with rfl|⟨t,rfl⟩
  ·simp at h
  simp at h
  exact hb y List.mem_cons_self h.1.symm
 |x::a,[],r,q,ha,_,_,hq,h=>by
  exfalso
  rcases hq with rfl|⟨t,rfl⟩
  ·simp at h
  simp at h
  exact ha x List.mem_cons_self h.1
 |x::a,y::b,r,q,ha,hb,hr,hq,h=>by
  simp only[List.cons_append,List.cons.injEq]at h
  obtain ⟨h1,h2⟩:=ziWz (fun c hc=>ha c (List.mem_cons_of_mem _ hc)) (fun c hc=>hb c (List.mem_cons_of_mem _ hc)) hr hq h.2
  exact ⟨by rw[h.1,h1],h2⟩
theorem zfpz(x y:ByteArray)(r:List ByteArray):jn 46 (x::y::r)=x.data.toList++46::jn 46 (y::r):=by
 simp[jn]
theorem zbLz{x y:ByteArray}(h:x.data.toList=y.data.toList):x=y:=by
 apply ByteArray.ext
 exact Array.toList_inj.1 h
theorem zp9z: ∀{xs ys:List ByteArray},xs≠[]→ys≠[]→(∀x∈xs,zdzz x.data.toList)→(∀y∈ys,zdzz y.data.toList)→jn 46 xs=jn 46 ys→xs=ys
 |[],_,h,_,_,_,_=>absurd rfl h
 |_::_,[],_,h,_,_,_=>absurd rfl h
 |[x],[y],_,_,_,_,h=>by
  simp only[jn,List.flatMap_nil,List.append_nil]at h
  rw[zbLz h]
 |[x],y::z::r,_,_,hx,hy,h=>by
  exfalso
  rw[zfpz]at h
  have h':x.data.toList++[]=y.data.toList++46::jn 46 (z::r):=by rw[←h];simp[jn]
  obtain ⟨_,h2⟩:=ziWz (hx x List.mem_cons_self) (hy y List.mem_cons_self) (.inl rfl) (.inr ⟨_,rfl⟩) h'
  cases h2
 |x::z::r,[y],_,_,hx,hy,h=>by
  exfalso
  rw[zfpz]at h
  have h':x.data.toList++46::jn 46 (z::r)=y.data.toList++[]:=by rw[h];simp[jn]
  obtain ⟨_,h2⟩:=ziWz (hx x List.mem_cons_self) (hy y List.mem_cons_self) (.inr ⟨_,rfl⟩) (.inl rfl) h'
  cases h2
 |x::z::r,y::u::q,_,_,hx,hy,h=>by
  rw[zfpz,zfpz]at h
  obtain ⟨h1,h2⟩:=ziWz (hx x List.mem_cons_self) (hy y List.mem_cons_self) (.inr ⟨_,rfl⟩) (.inr ⟨_,rfl⟩) h
  have h3:jn 46 (z::r)=jn 46 (u::q):=by simpa using h2
  have h4:=zp9z (by simp) (by simp) (fun a ha=>hx a (List.mem_cons_of_mem _ ha)) (fun a ha=>hy a (List.mem_cons_of_mem _ ha)) h3
  rw[zbLz h1,h4]
theorem zdAz(s:ByteArray): ∀k,k≤s.size→(zhz s 46 k).2≤k∧(∀x∈(zhz s 46 k).1,zdzz x.data.toList)∧zdzz ((s.data.toList.take k).drop (zhz s 46 k).2)
 |0,_=>by simp[zhz,zdzz]
 |k+1,hk=>by
  obtain ⟨h0,h1,h2⟩:=zdAz s k (by omega)
  by_cases e:(s[k].toNat:Int)=46
  ·rw[xTz s 46 k (by omega) e]
   refine ⟨Nat.le_refl _,fun x hx=> ?_,?_⟩
   ·rcases List.mem_append.1 hx with h|h
    ·exact h1 x h
    rw[List.mem_singleton.1 h,zAz]
    exact h2
   simp only
   rw[List.drop_of_length_le (by rw[List.length_take];omega)]
   intro c hc
   simp at hc
  rw[xiz s 46 k (by omega) e]
  refine ⟨by omega,h1,?_⟩
  rw[xez s k (by omega),List.drop_append_of_le_length (by rw[List.length_take];simp;omega)]
  intro c hc
  rcases List.mem_append.1 hc with h|h
  ·exact h2 c h
  rw[List.mem_singleton.1 h]
  intro h3
  apply e
  rw[h3]
  rfl
theorem zg7z(s:ByteArray): ∀x∈zaz s 46,zdzz x.data.toList:=by
 obtain ⟨_,h1,h2⟩:=zdAz s s.size (Nat.le_refl _)
 intro x hx
 unfold zaz at hx
 rcases List.mem_append.1 hx with h|h
 ·exact h1 x h
 rw[List.mem_singleton.1 h,zAz]
 exact h2
theorem zomz{l:List UInt8}(h:yMz l=true):zdzz l:=fun c hc he=>by
 have:=vKz ((ylz h).2.2.2.2 c hc)
 rw[he]at this
 revert this
 decide
theorem zhQz{ls:List ByteArray}(hne:ls≠[])(h: ∀a∈ls,yMz a.data.toList=true):zaz ⟨(jn 46 ls).toArray⟩ 46=ls:=by
 refine zp9z (by intro h0;have:=zePz ⟨(jn 46 ls).toArray⟩ 46;rw[h0]at this;simp at this) hne (zg7z _) (fun x hx=>zomz (h x hx)) ?_
 exact zddz ⟨(jn 46 ls).toArray⟩ 46 (by decide) (by decide)
theorem zgcz{ls:List ByteArray}(h: ∀a∈ls,yMz a.data.toList=true):yDz ls=ls:=by
 unfold yDz
 refine if_neg fun hh=> ?_
 have hl:ls.length-1<ls.length:=by omega
 have hm:ls.getD (ls.length-1) ByteArray.empty∈ls:=by
  rw[List.getD_eq_getElem?_getD,List.getElem?_eq_getElem hl]
  exact List.getElem_mem hl
 have:=(ylz (h _ hm)).1
 have e:(ls.getD (ls.length-1) ByteArray.empty).data.toList.length=(ls.getD (ls.length-1) ByteArray.empty).size:=by simp
 omega
theorem zcez{s:ByteArray}{n:List UInt8}(h:z6z s=some n): ∃ls:List ByteArray,ls≠[]∧ls.length≤253∧n.length≤253∧(∀a∈ls,yMz a.data.toList=true∧a.size≤63)∧n=jn 46 ls∧
  z6z ⟨n.toArray⟩=some n∧zp8z ⟨n.toArray⟩=ls.reverse∧0<n.length:=by
 unfold z6z at h
 have hp:=zeez (zePz s 46)
 generalize yDz (zaz s 46)=fs at h hp
 unfold vsz at h
 cases hr:yZz fs with
 |none=>rw[hr]at h;cases h
 |some ls=>
  rw[hr]at h
  simp only at h
  split at h
  ·rename_i hle
   cases h
   have hl:=jQz hr
   have hne:ls≠[]:=by intro h0;rw[h0]at hl;simp at hl;omega
   have hlab:=zhKz hr
   have hlab1: ∀a∈ls,yMz a.data.toList=true:=fun a ha=>(hlab a ha).1
   have hf:=zhQz hne hlab1
   have hpos:0<(jn 46 ls).length∧ls.length≤(jn 46 ls).length:=by
    have key: ∀ms:List ByteArray,ms.length≤(ms.flatMap fun y=>(46:UInt8)::y.data.toList).length:=by
     intro ms
     induction ms with
     |nil=>simp
     |cons m ms ih=>rw[List.flatMap_cons,List.length_append,List.length_cons,List.length_cons];omega
    match ls,hne,hlab1 with
    |x::xs,_,h1=>
     have h2:=(ylz (h1 x List.mem_cons_self)).1
     have h3:=key xs
     unfold jn
     rw[List.length_append,List.length_cons]
     omega
   refine ⟨ls,hne,by omega,hle,fun a ha=>⟨hlab1 a ha,zhLz hlab a ha⟩,rfl,?_,?_,hpos.1⟩
   ·unfold z6z
    rw[hf,zgcz hlab1]
    exact vLz (zepz fun a ha=>(hlab a ha).2) hle
   unfold zp8z
   rw[hf,if_neg]
   show ¬(jn 46 ls).toArray.size=0
   rw[List.size_toArray]
   omega
  cases h
theorem zdBz(s:ByteArray)(w:World)(hs:s.size≤1048576):
  Calls Tryz.prog 268 #[.string s] w fun e w'=>e=.returned (y1z (loA s))∧Below w.heap.size w w':=by
 have CF:Hid (Calls Tryz.prog 135 #[.string s,.int .u8 46] w fun e w'=> ∃v,e=.returned v∧w'.ownsRow w.heap.size 9 1 v (zaz s 46).length (zrz (zaz s 46))∧Below w.heap.size w w'):=zcJz s 46 w hs
 have hpos:0<(zaz s 46).length:=by simp[zaz]
 have hlen:(zaz s 46).length≤1048577:=by
  have:=(yAz s 46 s.size).2
  simp[zaz];omega
 have HSZ:Hid (∀x∈yDz (zaz s 46),x.size≤1048576):=zeLz (xKz s hs)
 have HNM:Hid (loA s=lo4 ((yDz (zaz s 46)).map toL)):=rfl
 have hp2:=zeez hpos
 have hl2:(yDz (zaz s 46)).length≤1048577:=Nat.le_trans (zjEz _) hlen
 have CW:Hid (∀(W:World) (v:Value) (B:Nat),W.ownsRow B 9 1 v (zaz s 46).length (zrz (zaz s 46))→Calls Tryz.prog 280 #[v] W fun e w'=> ∃v',e=.returned v'∧W.ownsRow B 9 1 v' (yDz (zaz s 46)).length (zrz (yDz (zaz s 46)))∧W=w'):=
  fun W v B h=>zeMz _ B v W hpos hlen h
 generalize yDz (zaz s 46)=fs at CW HSZ HNM hp2 hl2
 by_cases h5:4<fs.length
 ·have HZ:Hid (loA s=none):=by
   show _=_
   rw[HNM.out,zm0z h5]
  have h5':4<(fs.length:Int):=by omega
  clear h5
  go_enter Tryz.func268,Tryz.ntmps268
  go_wp2_with fail
  refine CF.out.mono ?_
  rintro e wa ⟨va,rfl,oa,ba⟩
  go_wp2_with fail
  refine (CW.out _ _ _ oa).mono ?_
  rintro e wb ⟨vb,rfl,ob,rfl⟩
  clear oa CW CF hpos hlen
  rcases zpz ob with ⟨h,_⟩|⟨_,g,cap,rfl⟩
  ·omega
  go_wp2_with fail
  go_ret2
  exact ⟨by rw[HZ.out];rfl,ba⟩
 have HF:Hid (loA s=loF 0 4294967296 (fs.map toL)):=by
  show _=_
  rw[HNM.out,zjHz (by omega)]
 have h5': ¬4<(fs.length:Int):=by omega
 go_enter Tryz.func268,Tryz.ntmps268
 go_wp2_with fail
 refine CF.out.mono ?_
 rintro e wa ⟨va,rfl,oa,ba⟩
 go_wp2_with fail
 refine (CW.out _ _ _ oa).mono ?_
 rintro e wb ⟨vb,rfl,ob,rfl⟩
 clear oa CW CF hpos hlen
 rcases zpz ob with ⟨h,_⟩|⟨_,g,cap,rfl⟩
 ·omega
 have hcap:=joz ob
 have hi:((fs.length:Int)-1)=((fs.length-1:Nat):Int):=by omega
 obtain ⟨m,hm⟩: ∃m,fs.length-1=m:=⟨_,rfl⟩
 rw[hm]at hi
 have HM:Hid (fs.length=m+1):=by show _=_;omega
 clear hm
 go_wp2_with fail
 go_loop[5,6,27] (fun x r i=> ∃(k n ρ:Nat) (a b:Int),k≤m∧i=.int .i64 k∧x=.int .i64 a∧r=.int .i64 b∧ρ=4294967296/256^k∧b=(ρ:Int)∧a=((n*ρ:Nat):Int)∧n<256^k∧loF n ρ ((fs.drop k).map toL)=loF 0 4294967296 (fs.map toL)) (fun _ _ i=>m-(intOf i).toNat)
 case atStart=>exact ⟨0,0,4294967296,0,4294967296,Nat.zero_le _,rfl,rfl,rfl,by decide,rfl,rfl,by decide,rfl⟩
 obtain ⟨k,n,ρ,a,b,hk,rfl,rfl,rfl,hρ,hb,ha,hn,hf⟩:=hrel
 have HR:Hid (loF n ρ ((fs.drop k).map toL)=loF 0 4294967296 (fs.map toL)):=hf
 have HA:Hid (a=((n*ρ:Nat):Int)):=ha
 have HP:Hid (ρ=4294967296/256^k):=hρ
 have HB:Hid (b=(ρ:Int)):=hb
 have HN:Hid (n<256^k):=hn
 have hρ1:ρ≤4294967296:=by rw[hρ];exact Nat.div_le_self _ _
 have hab:n*ρ≤4294967296:=by
  rw[hρ]
  exact Nat.le_trans (Nat.mul_le_mul_right _ (Nat.le_of_lt hn)) (Nat.mul_div_le _ _)
 have hb0:0≤b:=by omega
 have hb1:b≤4294967296:=by omega
 have ha0:0≤a:=by omega
 have ha1:a≤4294967296:=by omega
 have HKM:Hid (k≤m):=hk
 clear hf ha hρ hb hn hρ1 hab
 have hc:=z0z ob k (by have:=HM.out;omega)
 have hsy:=HSZ.out _ (jLz (k:=k) (by have:=HM.out;omega))
 have CT:Hid (∀W,CS 284 #[.string (fs.getD k ByteArray.empty)] W (y1z (zWz (toL (fs.getD k ByteArray.empty))))):=fun W=>znZz _ W hsy
 clear hsy
 by_cases hlt:k<m
 ·have HS:Hid (_=_):=zfjz fs k n ρ (by have:=HM.out;omega)
  generalize fs.getD k ByteArray.empty=y at hc CT HS
  have hki:(k:Int)<(m:Int):=by omega
  cases hv:zWz (toL y)with
  |none=>
   rw[hv]at CT HS
   have HZ:Hid (loA s=none):=by
    show _=_
    rw[HF.out,←HR.out,HS.out]
   clear hv
   go_wp2_with fail
   refine (CT.out _).mono ?_
   rintro e w' ⟨rfl,rfl⟩
   simp only[y1z]
   go_wp2_with fail
   go_ret2
   exact ⟨by rw[HZ.out];rfl,ba⟩
  |some v=>
   rw[hv]at CT HS
   clear hv
   obtain ⟨x,hx⟩: ∃x:Int,(v:Int)=x:=⟨_,rfl⟩
   have HX:Hid ((v:Int)=x):=hx
   by_cases hvr:v<256
   ·have HG:Hid (loF (n*256+v) (ρ/256) ((fs.drop (k+1)).map toL)=loF 0 4294967296 (fs.map toL)):=by
     show _=_
     rw[←HR.out,HS.out]
     exact (if_pos hvr).symm
    have hx1: ¬256≤x:=by omega
    have hx0:0≤x:=by omega
    obtain ⟨b',hb'⟩: ∃b':Int,b/256=b':=⟨_,rfl⟩
    have HB':Hid (b/256=b'):=hb'
    have hb'0:0≤b':=by omega
    have hb'1:b'≤16777216:=by omega
    obtain ⟨p,hp⟩: ∃p:Int,x*b'=p:=⟨_,rfl⟩
    have HPP:Hid (x*b'=p):=hp
    have hp0:0≤p:=by rw[←hp];exact Int.mul_nonneg hx0 hb'0
    have hp1:p≤4294967296:=by
     rw[←hp]
     have h1:x*b'≤256*b':=Int.mul_le_mul_of_nonneg_right (by omega) hb'0
     omega
    have HV:Hid (v<256):=hvr
    clear hvr hx
    go_wp2_with fail
    refine (CT.out _).mono ?_
    rintro e w' ⟨rfl,rfl⟩
    simp only[y1z]
    rw[HX.out]
    go_wp2_with fail
    go_round
    case rel=>
     have h1:=HN.out
     have h2:=HV.out
     have h3:=HB.out
     have h4:=HB'.out
     have h5:b'=((ρ/256:Nat):Int):=by rw[←h4,h3];omega
     have h6:256*(ρ/256)=ρ:=by
      rw[HP.out]
      obtain ⟨j,hj⟩: ∃j,k+1+j=4:=⟨4-(k+1),by have:=HM.out;omega⟩
      have h7:4294967296=256^k*(256^j*256):=by
       rw[←Nat.pow_succ,←Nat.pow_add,show k+(j+1)=4 by omega]
      rw[h7,Nat.mul_div_cancel_left _ (Nat.pow_pos (by decide)),Nat.mul_div_cancel _ (by decide),Nat.mul_comm]
     refine ⟨k+1,n*256+v,ρ/256,a+p,b',by omega,by go_num,by go_num,by go_num,?_,h5,?_,?_,HG.out⟩
     ·rw[HP.out,Nat.pow_succ,←Nat.div_div_eq_div_mul]
     ·rw[HA.out,←HPP.out,←HX.out,h5,Nat.add_mul,Nat.mul_assoc,h6,←Int.natCast_mul,←Int.natCast_add]
     rw[Nat.pow_succ];omega
    case measure=>simp[intOf];omega
   have HZ:Hid (loA s=none):=by
    show _=_
    rw[HF.out,←HR.out,HS.out]
    exact if_neg hvr
   have hx1:256≤x:=by omega
   clear hvr hx
   go_wp2_with fail
   refine (CT.out _).mono ?_
   rintro e w' ⟨rfl,rfl⟩
   simp only[y1z]
   rw[HX.out]
   go_wp2_with fail
   go_ret2
   exact ⟨by rw[HZ.out];rfl,ba⟩
 have HS:Hid (_=_):=zdgz fs k n ρ (by have:=HM.out;omega)
 generalize fs.getD k ByteArray.empty=y at hc CT HS
 obtain rfl:k=m:=by omega
 have hki: ¬(k:Int)<(k:Int):=by omega
 cases hv:zWz (toL y)with
 |none=>
  rw[hv]at CT HS
  have HZ:Hid (loA s=none):=by
   show _=_
   rw[HF.out,←HR.out,HS.out]
  clear hv hlt hki
  go_wp2_with fail
  refine (CT.out _).mono ?_
  rintro e w' ⟨rfl,rfl⟩
  simp only[y1z]
  go_wp2_with fail
  go_ret2
  exact ⟨by rw[HZ.out];rfl,ba⟩
 |some v=>
  rw[hv]at CT HS
  clear hv hlt hki
  obtain ⟨x,hx⟩: ∃x:Int,(v:Int)=x:=⟨_,rfl⟩
  have HX:Hid ((v:Int)=x):=hx
  by_cases hvr:v<ρ
  ·have HZ:Hid (loA s=some (n*ρ+v)):=by
    show _=_
    rw[HF.out,←HR.out,HS.out]
    exact if_pos hvr
   have hx1: ¬b≤x:=by have:=HB.out;omega
   have hx0:0≤x:=by omega
   clear hvr hx
   go_wp2_with fail
   refine (CT.out _).mono ?_
   rintro e w' ⟨rfl,rfl⟩
   simp only[y1z]
   rw[HX.out]
   go_wp2_with fail
   go_ret2
   exact ⟨by rw[HZ.out];have h1:=HA.out;have h2:=HX.out;simp[y1z];rw[h1,←h2];simp,ba⟩
  have HZ:Hid (loA s=none):=by
   show _=_
   rw[HF.out,←HR.out,HS.out]
   exact if_neg hvr
  have hx1:b≤x:=by have:=HB.out;omega
  clear hvr hx
  go_wp2_with fail
  refine (CT.out _).mono ?_
  rintro e w' ⟨rfl,rfl⟩
  simp only[y1z]
  rw[HX.out]
  go_wp2_with fail
  go_ret2
  exact ⟨by rw[HZ.out];rfl,ba⟩
end Go.Proofs.YtgcbaphbiaimoaaGreatDoor
