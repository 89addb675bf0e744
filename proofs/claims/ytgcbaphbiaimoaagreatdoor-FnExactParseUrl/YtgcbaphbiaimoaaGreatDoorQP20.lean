/- HostEq, RuneImpl. -/
import Derived.Test.YtgcbaphbiaimoaaGreatDoorQP19
set_option maxHeartbeats 2000000
namespace Go.Proofs.YtgcbaphbiaimoaaGreatDoor
open Go.RowKit
theorem zcUz(d:Nat)(x y:Int)(W:World):(Op.equalIn (d+1) 3 (.int .i64 x) (.int .i64 y)).run Tryz.prog W=.ok (x==y) W:=run_equalIn_int W d 3 .i64 .i64 x y Tryz.underlying3
theorem zjgz(d:Nat)(x y:ByteArray)(W:World):(Op.equalIn (d+1) 9 (.string x) (.string y)).run Tryz.prog W=.ok (x.toList==y.toList) W:=run_equalIn_string W d 9 x y Tryz.underlying9
def eqB(z y:List Int):Bool:=decide (z=y)
theorem zqSz(z:List Int):eqB z z=true:=decide_eq_true rfl
theorem ziaz(d:Nat)(xs ys:Array Value)(W:World)(zx zy:Nat→Int): ∀(js:List Nat),
  (∀j∈js,(part 3 xs (j*1)).run Tryz.prog W=.ok (.int .i64 (zx j)) W)→(∀j∈js,(part 3 ys (j*1)).run Tryz.prog W=.ok (.int .i64 (zy j)) W)→
  (Op.eqItems (d+1) 3 1 xs ys js).run Tryz.prog W=.ok (js.all fun j=>zx j==zy j) W
 |[],_,_=>by simp[Op.eqItems]
 |j::js,hx,hy=>by
  have ih:=ziaz d xs ys W zx zy js (fun i hi=>hx i (List.mem_cons_of_mem _ hi)) (fun i hi=>hy i (List.mem_cons_of_mem _ hi))
  simp only[Op.eqItems,Sem.run_bind,hx j List.mem_cons_self,hy j List.mem_cons_self,Result.andThen_ok,zcUz]
  cases h:(zx j==zy j)with
  |false=>simp[h]
  |true=>simp[h,ih]
theorem znyz(x0 x1 x2 x3 x4 x5 x6 x7:Int)(W:World): ∀j∈[0,1,2,3,4,5,6,7],(part 3 #[.int .i64 x0,.int .i64 x1,.int .i64 x2,.int .i64 x3,.int .i64 x4,.int .i64 x5,.int .i64 x6,.int .i64 x7] (j*1)).run Tryz.prog W=.ok (.int .i64 ([x0,x1,x2,x3,x4,x5,x6,x7].getD j 0)) W:=by
 intro j hj
 simp only[List.mem_cons,List.not_mem_nil,or_false]at hj
 rcases hj with rfl|rfl|rfl|rfl|rfl|rfl|rfl|rfl<;>simp[part,Tryz.isAgg3,go_sem]
theorem ztMz(x0 x1 x2 x3 x4 x5 x6 x7 y0 y1 y2 y3 y4 y5 y6 y7:Int):([0,1,2,3,4,5,6,7].all fun j=>[x0,x1,x2,x3,x4,x5,x6,x7].getD j 0==[y0,y1,y2,y3,y4,y5,y6,y7].getD j 0)=eqB [x0,x1,x2,x3,x4,x5,x6,x7] [y0,y1,y2,y3,y4,y5,y6,y7]:=by
 unfold eqB
 rw[Bool.eq_iff_iff,decide_eq_true_eq,List.all_eq_true]
 constructor
 ·intro h
  have e: ∀j,j∈[0,1,2,3,4,5,6,7]→[x0,x1,x2,x3,x4,x5,x6,x7].getD j 0=[y0,y1,y2,y3,y4,y5,y6,y7].getD j 0:=fun j hj=>by simpa using h j hj
  have e0:x0=y0:=e 0 (by simp)
  have e1:x1=y1:=e 1 (by simp)
  have e2:x2=y2:=e 2 (by simp)
  have e3:x3=y3:=e 3 (by simp)
  have e4:x4=y4:=e 4 (by simp)
  have e5:x5=y5:=e 5 (by simp)
  have e6:x6=y6:=e 6 (by simp)
  have e7:x7=y7:=e 7 (by simp)
  rw[e0,e1,e2,e3,e4,e5,e6,e7]
 intro h j _
 rw[h]
 simp
theorem eqA(d:Nat)(x0 x1 x2 x3 x4 x5 x6 x7 y0 y1 y2 y3 y4 y5 y6 y7:Int)(W:World):
  (Op.equalIn (d+2) 24 (.agg #[.int .i64 x0,.int .i64 x1,.int .i64 x2,.int .i64 x3,.int .i64 x4,.int .i64 x5,.int .i64 x6,.int .i64 x7]) (.agg #[.int .i64 y0,.int .i64 y1,.int .i64 y2,.int .i64 y3,.int .i64 y4,.int .i64 y5,.int .i64 y6,.int .i64 y7])).run Tryz.prog W=.ok (eqB [x0,x1,x2,x3,x4,x5,x6,x7] [y0,y1,y2,y3,y4,y5,y6,y7]) W:=by
 obtain ⟨i0,hi,hz0,hz1,hz2⟩:=info_parts Tryz.infoI5
 rw[run_equalIn_array W (d+1) _ _ Tryz.underlying24 hi,show Tryz.prog.cellsOf 3=1 by kernel_rfl,show List.range 8=[0,1,2,3,4,5,6,7] from rfl,
  ziaz d _ _ W (fun j=>[x0,x1,x2,x3,x4,x5,x6,x7].getD j 0) (fun j=>[y0,y1,y2,y3,y4,y5,y6,y7].getD j 0) _ (znyz x0 x1 x2 x3 x4 x5 x6 x7 W) (znyz y0 y1 y2 y3 y4 y5 y6 y7 W),ztMz x0 x1 x2 x3 x4 x5 x6 x7 y0 y1 y2 y3 y4 y5 y6 y7]
def eqHB(k:Int)(s:ByteArray)(n:Int)(z:List Int)(k':Int)(s':ByteArray)(n':Int)(z':List Int):Bool:=(k==k')&&((s.toList==s'.toList)&&((n==n')&&eqB z z'))
theorem zeZz:((Tryz.prog.fieldsOf 26).toList.map fun f=>(f.type,f.offset,decide (f.name≠ "_")))=[(3,0,true),(9,1,true),(3,2,true),(24,3,true)]:=by kernel_rfl
theorem ydz(d:Nat)(f:Field)(fs:List Field)(xs ys:Array Value)(a b:Value)(r:Bool)(W:World)(hn:f.name≠ "_")(h1:(part f.type xs f.offset).run Tryz.prog W=.ok a W)(h2:(part f.type ys f.offset).run Tryz.prog W=.ok b W)(h3:(Op.equalIn d f.type a b).run Tryz.prog W=.ok r W):
  (Op.eqFields d xs ys (f::fs)).run Tryz.prog W=if r=true then (Op.eqFields d xs ys fs).run Tryz.prog W else .ok false W:=by
 simp only[Op.eqFields,hn,ne_eq,not_false_eq_true,if_true,Sem.run_bind,h1,h2,h3,Result.andThen_ok]
 cases r<;>simp
theorem znzz(k n:Int)(s:ByteArray)(x0 x1 x2 x3 x4 x5 x6 x7:Int)(W:World):(part 3 #[.int .i64 k,.string s,.int .i64 n,.int .i64 x0,.int .i64 x1,.int .i64 x2,.int .i64 x3,.int .i64 x4,.int .i64 x5,.int .i64 x6,.int .i64 x7] 0).run Tryz.prog W=.ok (.int .i64 k) W:=by kernel_rfl
theorem znAz(k n:Int)(s:ByteArray)(x0 x1 x2 x3 x4 x5 x6 x7:Int)(W:World):(part 9 #[.int .i64 k,.string s,.int .i64 n,.int .i64 x0,.int .i64 x1,.int .i64 x2,.int .i64 x3,.int .i64 x4,.int .i64 x5,.int .i64 x6,.int .i64 x7] 1).run Tryz.prog W=.ok (.string s) W:=by kernel_rfl
theorem znBz(k n:Int)(s:ByteArray)(x0 x1 x2 x3 x4 x5 x6 x7:Int)(W:World):(part 3 #[.int .i64 k,.string s,.int .i64 n,.int .i64 x0,.int .i64 x1,.int .i64 x2,.int .i64 x3,.int .i64 x4,.int .i64 x5,.int .i64 x6,.int .i64 x7] 2).run Tryz.prog W=.ok (.int .i64 n) W:=by kernel_rfl
theorem znCz(k n:Int)(s:ByteArray)(x0 x1 x2 x3 x4 x5 x6 x7:Int)(W:World):(part 24 #[.int .i64 k,.string s,.int .i64 n,.int .i64 x0,.int .i64 x1,.int .i64 x2,.int .i64 x3,.int .i64 x4,.int .i64 x5,.int .i64 x6,.int .i64 x7] 3).run Tryz.prog W=.ok (.agg #[.int .i64 x0,.int .i64 x1,.int .i64 x2,.int .i64 x3,.int .i64 x4,.int .i64 x5,.int .i64 x6,.int .i64 x7]) W:=by kernel_rfl
theorem eqH(k:Int)(s:ByteArray)(n:Int)(x0 x1 x2 x3 x4 x5 x6 x7:Int)(k':Int)(s':ByteArray)(n':Int)(y0 y1 y2 y3 y4 y5 y6 y7:Int)(W:World):
  (Op.equalIn 10000 26 (.agg #[.int .i64 k,.string s,.int .i64 n,.int .i64 x0,.int .i64 x1,.int .i64 x2,.int .i64 x3,.int .i64 x4,.int .i64 x5,.int .i64 x6,.int .i64 x7]) (.agg #[.int .i64 k',.string s',.int .i64 n',.int .i64 y0,.int .i64 y1,.int .i64 y2,.int .i64 y3,.int .i64 y4,.int .i64 y5,.int .i64 y6,.int .i64 y7])).run Tryz.prog W=.ok (eqHB k s n [x0,x1,x2,x3,x4,x5,x6,x7] k' s' n' [y0,y1,y2,y3,y4,y5,y6,y7]) W:=by
 rw[show (10000:Nat)=9999+1 from rfl,run_equalIn_struct W 9999 26 _ _ (by kernel_rfl) (by kernel_rfl)]
 have hf:=zeZz
 generalize (Tryz.prog.fieldsOf 26).toList=fs at hf
 obtain ⟨f0,r0,rfl,e0,hf⟩:=List.map_eq_cons_iff.1 hf
 obtain ⟨f1,r1,rfl,e1,hf⟩:=List.map_eq_cons_iff.1 hf
 obtain ⟨f2,r2,rfl,e2,hf⟩:=List.map_eq_cons_iff.1 hf
 obtain ⟨f3,r3,rfl,e3,hf⟩:=List.map_eq_cons_iff.1 hf
 obtain rfl:=List.map_eq_nil_iff.1 hf
 simp only[Prod.mk.injEq,decide_eq_true_eq]at e0 e1 e2 e3
 obtain ⟨a0,a1,a2⟩:=e0
 obtain ⟨b0,b1,b2⟩:=e1
 obtain ⟨c0,c1,c2⟩:=e2
 obtain ⟨d0,d1,d2⟩:=e3
 rw[ydz 9999 f0 _ _ _ (.int .i64 k) (.int .i64 k') (k==k') W a2 (by rw[a0,a1];exact znzz ..) (by rw[a0,a1];exact znzz ..) (by rw[a0];exact zcUz 9998 ..),
  ydz 9999 f1 _ _ _ (.string s) (.string s') (s.toList==s'.toList) W b2 (by rw[b0,b1];exact znAz ..) (by rw[b0,b1];exact znAz ..) (by rw[b0];exact zjgz 9998 ..),
  ydz 9999 f2 _ _ _ (.int .i64 n) (.int .i64 n') (n==n') W c2 (by rw[c0,c1];exact znBz ..) (by rw[c0,c1];exact znBz ..) (by rw[c0];exact zcUz 9998 ..),
  ydz 9999 f3 _ _ _ (.agg #[.int .i64 x0,.int .i64 x1,.int .i64 x2,.int .i64 x3,.int .i64 x4,.int .i64 x5,.int .i64 x6,.int .i64 x7]) (.agg #[.int .i64 y0,.int .i64 y1,.int .i64 y2,.int .i64 y3,.int .i64 y4,.int .i64 y5,.int .i64 y6,.int .i64 y7]) (eqB [x0,x1,x2,x3,x4,x5,x6,x7] [y0,y1,y2,y3,y4,y5,y6,y7]) W d2 (by rw[d0,d1];exact znCz ..) (by rw[d0,d1];exact znCz ..) (by rw[d0];exact eqA 9997 ..)]
 unfold eqHB
 cases (k==k')<;>cases (s.toList==s'.toList)<;>cases (n==n')<;>cases (eqB [x0,x1,x2,x3,x4,x5,x6,x7] [y0,y1,y2,y3,y4,y5,y6,y7])<;>rfl
end Go.Proofs.YtgcbaphbiaimoaaGreatDoor
namespace Go.Proofs.YtgcbaphbiaimoaaGreatDoor
open Go.RowKit Go.Shelf
def vaz(r:Int):Bool:=decide (0≤r∧r≤1114111∧(r<55296∨57343<r))
theorem zibz(r:Int):vaz r=true↔ytz r:=by unfold vaz ytz;exact decide_eq_true_iff
theorem zmdz(r:Int)(w:World):
  Calls Tryz.prog 306 #[.int .i64 r] w fun e w'=>e=.returned (.bool (vaz r))∧w=w':=by
 by_cases h0:r<0
 ·have HV:Hid (vaz r=false):=by show _=_;unfold vaz;rw[decide_eq_false_iff_not];omega
  go_enter Tryz.func306,Tryz.ntmps306
  go_wp2
  go_ret
  exact ⟨zgz HV.out.symm,rfl⟩
 by_cases h1:1114111<r
 ·have HV:Hid (vaz r=false):=by show _=_;unfold vaz;rw[decide_eq_false_iff_not];omega
  go_enter Tryz.func306,Tryz.ntmps306
  go_wp2
  go_ret
  exact ⟨zgz HV.out.symm,rfl⟩
 by_cases h2:r<55296
 ·have HV:Hid (vaz r=true):=by show _=_;unfold vaz;rw[decide_eq_true_iff];omega
  go_enter Tryz.func306,Tryz.ntmps306
  go_wp2
  go_ret
  exact ⟨zgz (by rw[HV.out]),rfl⟩
 by_cases h3:57343<r
 ·have HV:Hid (vaz r=true):=by show _=_;unfold vaz;rw[decide_eq_true_iff];omega
  go_enter Tryz.func306,Tryz.ntmps306
  go_wp2
  go_ret
  exact ⟨zgz (by rw[HV.out]),rfl⟩
 have HV:Hid (vaz r=false):=by show _=_;unfold vaz;rw[decide_eq_false_iff_not];omega
 go_enter Tryz.func306,Tryz.ntmps306
 go_wp2
 go_ret
 exact ⟨zgz (by rw[HV.out]),rfl⟩
theorem zmez(r:Int)(w:World):
  Calls Tryz.prog 298 #[.int .i64 r] w fun e w'=>e=.returned (.bool (!(vaz r)))∧w=w':=by
 have HC:Hid (CS 306 #[.int .i64 r] w (.bool (vaz r))):=zmdz r w
 generalize vaz r=b at HC
 go_enter Tryz.func298,Tryz.ntmps298
 go_wp2_with fail
 refine HC.out.mono ?_
 rintro e w' ⟨rfl,rfl⟩
 go_wp2_with fail
 go_ret
 exact ⟨rfl,rfl⟩
theorem zkXz(w:World):PredAt Tryz.prog 298 #[] (fun z:Int=>Value.int .i64 z) (fun z=> !vaz z) w:=by
 intro W x _
 exact (zmez x W).mono fun e w' h=>⟨h.1,0,h.2.symm⟩
theorem zicz(l:List Nat)(n0 N cap g:Nat)(B:Nat)(w:World)(hN:l.length=N)(hN1:N≤1048576)(hv: ∀c∈l,c≤1114111)(hex:ziz n0 l≤1114111)(hown:w.ownsRow B 3 1 (.slice (some ⟨g,0,none⟩) N cap) N (icN l)):
  Calls Tryz.prog 299 #[.slice (some ⟨g,0,none⟩) N cap,.int .i64 (n0:Int)] w fun e w'=>e=.returned (.int .i64 (ziz n0 l:Int))∧w=w':=by
 have HL:Hid (l.length=N):=hN
 have HV:Hid (∀c∈l,c≤1114111):=hv
 have H0:Hid (jgz n0 1114111 l=ziz n0 l):=by
  show _=_
  rw[zeoz n0 l _ (by decide)]
  split<;>omega
 clear hN hv hex
 go_enter Tryz.func299,Tryz.ntmps299
 go_wp2_with fail
 go_loop[5,10] (fun a i=> ∃k m:Nat,k≤N∧i=.int .i64 k∧a=.int .i64 m∧m≤1114112∧jgz n0 m (l.drop k)=ziz n0 l) (fun _ i=>N-(intOf i).toNat)
 case atStart=>exact ⟨0,1114111,Nat.zero_le _,rfl,rfl,by decide,H0.out⟩
 obtain ⟨k,m,hk,rfl,rfl,hm,he⟩:=hrel
 have HE:Hid (jgz n0 m (l.drop k)=ziz n0 l):=he
 clear he
 by_cases hlt:k<N
 ·have ca:=vIz hown k hlt
  have HS:Hid (l.drop k=l.getD k 0::l.drop (k+1)):=jPz l k (by have:=HL.out;omega)
  have hc:=HV.out (l.getD k 0) (by
   rw[List.getD_eq_getElem?_getD,List.getElem?_eq_getElem (by have:=HL.out;omega)]
   exact List.getElem_mem _)
  generalize l.getD k 0=c at ca HS hc
  have HR:Hid (jgz n0 (if n0≤c∧c<m then c else m) (l.drop (k+1))=ziz n0 l):=by show _=_;rw[←HE.out,HS.out];rfl
  by_cases h1:(n0:Int)≤(c:Int)
  ·by_cases h2:(c:Int)<(m:Int)
   ·rw[if_pos (by omega)]at HR
    go_wp2_with fail
    go_round
    case rel=>exact ⟨k+1,c,by omega,by go_num,by go_num,by omega,HR.out⟩
    case measure=>simp[intOf];omega
   rw[if_neg (by omega)]at HR
   go_wp2_with fail
   go_round
   case rel=>exact ⟨k+1,m,by omega,by go_num,by go_num,hm,HR.out⟩
   case measure=>simp[intOf];omega
  rw[if_neg (by omega)]at HR
  go_wp2_with fail
  go_round
  case rel=>exact ⟨k+1,m,by omega,by go_num,rfl,hm,HR.out⟩
  case measure=>simp[intOf];omega
 have HR:Hid (m=ziz n0 l):=by
  show _=_
  rw[←HE.out,List.drop_of_length_le (by have:=HL.out;omega)]
  rfl
 go_wp2_with fail
 go_ret
 exact ⟨znz (by rw[←HR.out]),rfl⟩
end Go.Proofs.YtgcbaphbiaimoaaGreatDoor
