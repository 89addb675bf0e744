/- Parse6Impl, ArrMarks, Par6Eight, DrawWalk. -/
import Derived.Test.YtgcbaphbiaimoaaGreatDoorQP13
import Derived.Laws.CopyOwn
set_option maxHeartbeats 8000000
set_option maxRecDepth 100000
namespace Go.Proofs.YtgcbaphbiaimoaaGreatDoor
open Go.RowKit
def jkz(l:List UInt8):List UInt8:=match z5z l with
 |none=>l
 |some (a,_)=>a
def jlz(l:List UInt8):List UInt8:=match z5z l with
 |none=>[]
 |some (_,b)=>b
theorem zotz(l:List UInt8):Lib.cut l [58,58]=(jkz l,jlz l,(z5z l).isSome):=by
 rw[zsiz]
 unfold jkz jlz
 cases z5z l<;>rfl
theorem zouz(l:List UInt8):(jkz l).length≤l.length∧(jlz l).length≤l.length:=by
 unfold jkz jlz
 cases h:z5z l with
 |none=>simp
 |some p=>
  obtain ⟨a,b⟩:=p
  have:=congrArg List.length (zcMz h)
  simp at this⊢
  omega
theorem zknz(l:List UInt8):zbDz l=match yhz false (jkz l),yhz false (jlz l)with
  |some x,some y=>if (if (z5z l).isSome then x.length+y.length<8 else x.length+y.length=8)then some (x5z x y)else none
  |_,_=>none:=by
 unfold zbDz jkz jlz
 cases h:z5z l with
 |none=>
  simp only
  rw[show yhz false []=some [] from rfl]
  cases yhz false l with
  |none=>rfl
  |some g=>
   simp only[Option.isSome_none,Bool.false_eq_true,if_false,List.length_nil,Nat.add_zero]
   by_cases h8:g.length=8
   ·rw[if_pos h8,if_pos h8]
    simp[x5z,h8]
   rw[if_neg h8,if_neg h8]
 |some p=>
  obtain ⟨a,b⟩:=p
  simp only
  cases yhz false a with
  |none=>rfl
  |some x=>
   cases yhz false b with
   |none=>rfl
   |some y=>
    simp only[Option.isSome_some,if_true]
    by_cases h7:x.length+y.length≤7
    ·rw[if_pos h7,if_pos (by omega)]
    rw[if_neg h7,if_neg (by omega)]
theorem zlSz(T:ByteArray)(w:World)(hs:T.size≤1048576)(hM:MaxI w):
  Calls Tryz.prog 102 #[.string T,.string ⟨#[58,58]⟩] w fun e w'=>e=.returned (.tuple #[.string ⟨(jkz T.data.toList).toArray⟩,.string ⟨(jlz T.data.toList).toArray⟩,.bool (z5z T.data.toList).isSome])∧Below w.heap.size w w':=by
 obtain ⟨m,hm⟩:=hM
 refine (Tryz.strings_Cut T ⟨#[58,58]⟩ m w (by omega) hm).mono ?_
 rintro e w' ⟨rfl,n,rfl⟩
 refine ⟨?_,⟨rfl,rfl,rfl,Nat.le_refl _,fun _ _=>rfl⟩⟩
 rw[show (⟨#[58,58]⟩:ByteArray).data.toList=[58,58] from rfl,zotz]
theorem jRz{z:List Int}(h:z.length=8): ∃a b c d e f g i:Int,z=[a,b,c,d,e,f,g,i]:=by
 match z,h with
 |[a,b,c,d,e,f,g,i],_=>exact ⟨a,b,c,d,e,f,g,i,rfl⟩
theorem v8z{w:World}{g:Nat}{cs:Array Value}{t:TypeId}{fz:Nat×Nat}(h:w.heap[g]? =some (.cells cs t fz))(j:Nat):w.cell? ⟨g,j,none⟩=cs[j]? :=by
 unfold World.cell?
 simp[h]
theorem zngz: ∀{fs:List (List UInt8)} {gs:List Nat},grp false fs=some gs→gs.length=fs.length
 |[],gs,h=>by cases h;rfl
 |x::r,gs,h=>by
  rw[vez]at h
  cases hx:g16 x with
  |none=>rw[hx]at h;cases h
  |some v=>
   rw[hx]at h
   simp only at h
   cases hr:grp false r with
   |none=>rw[hr]at h;cases h
   |some q=>
    rw[hr]at h
    cases h
    simp[zngz hr]
theorem znhz(b:UInt8): ∀l:List UInt8,(spl b l).length≤l.length+1
 |[]=>by simp[spl]
 |c::r=>by
  have ih:=znhz b r
  rw[spl]
  split
  ·simp;omega
  cases hs:spl b r with
  |nil=>simp
  |cons x xs=>rw[hs]at ih;simp at ih⊢;omega
theorem zkoz{l:List UInt8}{gs:List Nat}(h:yhz false l=some gs):gs.length≤l.length+1:=by
 unfold yhz at h
 split at h
 ·cases h;simp
 rw[zngz h]
 exact znhz 58 l
theorem zkpz{a b:List Nat}(h:a.length+b.length≤8):splice (splice [.int .i64 0,.int .i64 0,.int .i64 0,.int .i64 0,.int .i64 0,.int .i64 0,.int .i64 0,.int .i64 0] 0 (zkz (toI a))) (8-b.length) (zkz (toI b))=zkz (toI (x5z a b)):=by
 have e0:([.int .i64 0,.int .i64 0,.int .i64 0,.int .i64 0,.int .i64 0,.int .i64 0,.int .i64 0,.int .i64 0]:List Value)=List.replicate 8 (.int .i64 0):=rfl
 have la:(zkz (toI a)).length=a.length:=by rw[yWz,xyz]
 have lb:(zkz (toI b)).length=b.length:=by rw[yWz,xyz]
 have e1:splice (List.replicate 8 (Value.int .i64 0)) 0 (zkz (toI a))=zkz (toI a)++List.replicate (8-a.length) (Value.int .i64 0):=by
  unfold splice
  rw[List.take_zero,List.nil_append,la,Nat.zero_add,List.drop_replicate]
 rw[e0,e1]
 unfold splice
 rw[List.take_append,la,lb,List.take_of_length_le (by rw[la];omega),List.take_replicate,List.drop_of_length_le (by rw[List.length_append,la,List.length_replicate];omega),List.append_nil,show min (8-b.length-a.length) (8-a.length)=8-a.length-b.length by omega]
 unfold x5z
 simp[zkz,toI]
theorem zi3z(s:ByteArray)(w:World)(hs:s.size≤1048576)(hT:Pow w)(hD:zJz w)(hM:MaxI w):
  Calls Tryz.prog 265 #[.string s] w fun e w'=>e=.returned (vtz (yEz s.data.toList))∧Below w.heap.size w w':=by
 have CE:Hid (∀W,Pow W→zJz W→Calls Tryz.prog 277 #[.string s] W fun e w'=> ∃T:ByteArray,e=.returned (.string T)∧zbDz T.data.toList=yEz s.data.toList∧T.size≤1048576∧Below W.heap.size W w'):=fun W a b=>zsjz s W hs a b
 have HT:Hid (Pow w):=hT
 have HD:Hid (zJz w):=hD
 have HM:Hid (MaxI w):=hM
 clear hT hD hM
 have AR:=zPz (zcfz w)
 have B0:Hid (Below w.heap.size w (w.alloc (.cells #[.int .i64 0,.int .i64 0,.int .i64 0,.int .i64 0,.int .i64 0,.int .i64 0,.int .i64 0,.int .i64 0] 24))):=(Below.refl _ w).alloc (Nat.le_refl _) _
 have Z0:Hid ((w.alloc (.cells #[.int .i64 0,.int .i64 0,.int .i64 0,.int .i64 0,.int .i64 0,.int .i64 0,.int .i64 0,.int .i64 0] 24)).heap.size=w.heap.size+1):=by show _=_;simp
 go_enter Tryz.func265,Tryz.ntmps265
 go_wp2_with fail
 refine (CE.out _ (yfz HT.out B0.out) (zxz HD.out B0.out)).mono ?_
 rintro e w1 ⟨T,rfl,hpt,hts,b1⟩
 have HPT:Hid (zbDz T.data.toList=yEz s.data.toList):=hpt
 have B1:=B0.out.trans (b1.mono B0.out.size)
 have CC:Hid (CB 102 #[.string T,.string ⟨#[58,58]⟩] w1 (.tuple #[.string ⟨(jkz T.data.toList).toArray⟩,.string ⟨(jlz T.data.toList).toArray⟩,.bool (z5z T.data.toList).isSome])):=zlSz T w1 hts (viz HM.out B1)
 have hpl:=zouz T.data.toList
 have htl:T.data.toList.length=T.size:=by simp
 rw[htl]at hpl
 have CH:Hid (∀W,Calls Tryz.prog 278 #[.string ⟨(jkz T.data.toList).toArray⟩] W fun e w'=>zi2z W w' (yhz false (jkz T.data.toList)) e∧Below W.heap.size W w'):=fun W=>zbNz ⟨(jkz T.data.toList).toArray⟩ W (by show (jkz T.data.toList).toArray.size≤_;rw[List.size_toArray];omega)
 have CR:Hid (∀W,Calls Tryz.prog 278 #[.string ⟨(jlz T.data.toList).toArray⟩] W fun e w'=>zi2z W w' (yhz false (jlz T.data.toList)) e∧Below W.heap.size W w'):=fun W=>zbNz ⟨(jlz T.data.toList).toArray⟩ W (by show (jlz T.data.toList).toArray.size≤_;rw[List.size_toArray];omega)
 have HP:Hid (yEz s.data.toList=match yhz false (jkz T.data.toList),yhz false (jlz T.data.toList)with
  |some x,some y=>if (if (z5z T.data.toList).isSome then x.length+y.length<8 else x.length+y.length=8)then some (x5z x y)else none
  |_,_=>none):=HPT.out.symm.trans (zknz _)
 clear hpt HPT CE HT HD HM
 generalize (⟨(jkz T.data.toList).toArray⟩:ByteArray)=TH at CC CH
 generalize (⟨(jlz T.data.toList).toArray⟩:ByteArray)=TT at CC CR
 have HBH:Hid (∀gs,yhz false (jkz T.data.toList)=some gs→gs.length≤1048577):=fun gs h=>by have:=zkoz h;omega
 have HBT:Hid (∀gs,yhz false (jlz T.data.toList)=some gs→gs.length≤1048577):=fun gs h=>by have:=zkoz h;omega
 clear hpl htl
 generalize yhz false (jkz T.data.toList)=rh at CH HP HBH
 generalize yhz false (jlz T.data.toList)=rt at CR HP HBT
 generalize (z5z T.data.toList).isSome=ct at CC HP
 go_wp2_with fail
 refine CC.out.mono ?_
 rintro e w2 ⟨rfl,b2⟩
 go_wp2_with fail
 refine (CH.out _).mono ?_
 rintro e w3 ⟨hh,b3⟩
 have b12:=b1.trans (b2.mono b1.size)
 have b13:=b12.trans (b3.mono b12.size)
 have k2:w.heap.size+1≤w2.heap.size:=by have:=Z0.out;have:=b12.size;omega
 have k3:w.heap.size+1≤w3.heap.size:=Nat.le_trans k2 b3.size
 cases rh with
 |none=>
  obtain rfl:e=.returned (.tuple #[.slice none 0 0,.bool false]):=hh
  have HZ:Hid (vtz (yEz s.data.toList)=vtz none):=by show _=_;rw[HP.out]
  go_wp2_with fail
  refine (CR.out _).mono ?_
  rintro e w4 ⟨ht,b4⟩
  have b14:=b13.trans (b4.mono b13.size)
  have AR3:=zPz (AR.out.later b14)
  have B3:Hid (Below w.heap.size w w4):=B0.out.trans (b14.mono B0.out.size)
  clear b1 b2 b3 b4 b12 b13 b14 B1 k2 k3 AR B0 Z0
  cases rt with
  |none=>
   obtain rfl:e=.returned (.tuple #[.slice none 0 0,.bool false]):=ht
   have RA:=AR3.out
   have r0:=(RA.2 0 (by decide)).1
   have r1:=(RA.2 1 (by decide)).1
   have r2:=(RA.2 2 (by decide)).1
   have r3:=(RA.2 3 (by decide)).1
   have r4:=(RA.2 4 (by decide)).1
   have r5:=(RA.2 5 (by decide)).1
   have r6:=(RA.2 6 (by decide)).1
   have r7:=(RA.2 7 (by decide)).1
   have f0:=(RA.2 0 (by decide)).2
   have f1:=(RA.2 1 (by decide)).2
   have f2:=(RA.2 2 (by decide)).2
   have f3:=(RA.2 3 (by decide)).2
   have f4:=(RA.2 4 (by decide)).2
   have f5:=(RA.2 5 (by decide)).2
   have f6:=(RA.2 6 (by decide)).2
   have f7:=(RA.2 7 (by decide)).2
   have HRA:=zPz RA
   clear RA
   go_wp2_with fail
   refine bodyPost_ret (z7z rfl _ _ w.heap.size false 0 0 0 0 0 0 0 0 rfl rfl (ygz HRA.out 0 0 0 0 0 0 0 0)) rfl ⟨by rw[HZ.out];rfl,zTz B3.out (Nat.le_refl _) 0 0 0 0 0 0 0 0⟩
  |some gt=>
   obtain ⟨vt,rfl,ot⟩: ∃v:Value,e=.returned (.tuple #[v,.bool true])∧_:=ht
   clear ot
   have RA:=AR3.out
   have r0:=(RA.2 0 (by decide)).1
   have r1:=(RA.2 1 (by decide)).1
   have r2:=(RA.2 2 (by decide)).1
   have r3:=(RA.2 3 (by decide)).1
   have r4:=(RA.2 4 (by decide)).1
   have r5:=(RA.2 5 (by decide)).1
   have r6:=(RA.2 6 (by decide)).1
   have r7:=(RA.2 7 (by decide)).1
   have f0:=(RA.2 0 (by decide)).2
   have f1:=(RA.2 1 (by decide)).2
   have f2:=(RA.2 2 (by decide)).2
   have f3:=(RA.2 3 (by decide)).2
   have f4:=(RA.2 4 (by decide)).2
   have f5:=(RA.2 5 (by decide)).2
   have f6:=(RA.2 6 (by decide)).2
   have f7:=(RA.2 7 (by decide)).2
   have HRA:=zPz RA
   clear RA
   go_wp2_with fail
   refine bodyPost_ret (z7z rfl _ _ w.heap.size false 0 0 0 0 0 0 0 0 rfl rfl (ygz HRA.out 0 0 0 0 0 0 0 0)) rfl ⟨by rw[HZ.out];rfl,zTz B3.out (Nat.le_refl _) 0 0 0 0 0 0 0 0⟩
 |some gh=>
  obtain ⟨vh,rfl,oh⟩: ∃v:Value,e=.returned (.tuple #[v,.bool true])∧w3.ownsRow w2.heap.size 3 1 v gh.length (zkz (toI gh)):=hh
  go_wp2_with fail
  refine (CR.out _).mono ?_
  rintro e w4 ⟨ht,b4⟩
  have b14:=b13.trans (b4.mono b13.size)
  have AR3:=zPz (AR.out.later b14)
  have B3:Hid (Below w.heap.size w w4):=B0.out.trans (b14.mono B0.out.size)
  have oh':=zjz oh b4
  obtain ⟨aoh,caph,rfl,rh0⟩:=zdDz oh' (xyz gh)
  have HRH:Hid (v7z w4 (w.heap.size+1) aoh (toI gh)):=fun h0=>by
   obtain ⟨g,h1,h2,h3⟩:=rh0 h0
   exact ⟨g,h1,by omega,h3⟩
  clear oh oh' rh0 b1 b2 b3 b4 b12 b13 b14 B1 AR B0 Z0
  cases rt with
  |none=>
   obtain rfl:e=.returned (.tuple #[.slice none 0 0,.bool false]):=ht
   have HZ:Hid (vtz (yEz s.data.toList)=vtz none):=by show _=_;rw[HP.out]
   have RA:=AR3.out
   have r0:=(RA.2 0 (by decide)).1
   have r1:=(RA.2 1 (by decide)).1
   have r2:=(RA.2 2 (by decide)).1
   have r3:=(RA.2 3 (by decide)).1
   have r4:=(RA.2 4 (by decide)).1
   have r5:=(RA.2 5 (by decide)).1
   have r6:=(RA.2 6 (by decide)).1
   have r7:=(RA.2 7 (by decide)).1
   have f0:=(RA.2 0 (by decide)).2
   have f1:=(RA.2 1 (by decide)).2
   have f2:=(RA.2 2 (by decide)).2
   have f3:=(RA.2 3 (by decide)).2
   have f4:=(RA.2 4 (by decide)).2
   have f5:=(RA.2 5 (by decide)).2
   have f6:=(RA.2 6 (by decide)).2
   have f7:=(RA.2 7 (by decide)).2
   have HRA:=zPz RA
   clear RA
   go_wp2_with fail
   refine bodyPost_ret (z7z rfl _ _ w.heap.size false 0 0 0 0 0 0 0 0 rfl rfl (ygz HRA.out 0 0 0 0 0 0 0 0)) rfl ⟨by rw[HZ.out];rfl,zTz B3.out (Nat.le_refl _) 0 0 0 0 0 0 0 0⟩
  |some gt=>
   obtain ⟨vt,rfl,ot⟩: ∃v:Value,e=.returned (.tuple #[v,.bool true])∧w4.ownsRow w3.heap.size 3 1 v gt.length (zkz (toI gt)):=ht
   obtain ⟨aot,capt,rfl,rt0⟩:=zdDz ot (xyz gt)
   have HRT:Hid (v7z w4 (w.heap.size+1) aot (toI gt)):=fun h0=>by
    obtain ⟨g,h1,h2,h3⟩:=rt0 h0
    exact ⟨g,h1,by omega,h3⟩
   clear ot rt0 k2 k3
   simp only at HP
   have hbh:(gh.length:Int)≤1048577:=by have:=HBH.out gh rfl;omega
   have hbt:(gt.length:Int)≤1048577:=by have:=HBT.out gt rfl;omega
   have CM:Hid (∀W,CS 279 #[.int .i64 ((gh.length:Int)+(gt.length:Int)),.bool ct] W (.bool (if ct then decide ((gh.length:Int)+(gt.length:Int)<8)else ((gh.length:Int)+(gt.length:Int)==8)))):=fun W=>zkmz _ ct W
   by_cases hf:(if ct then gh.length+gt.length<8 else gh.length+gt.length=8)
   ·have hb:(if ct then decide ((gh.length:Int)+(gt.length:Int)<8)else ((gh.length:Int)+(gt.length:Int)==8))=true:=by
     cases ct with
     |true=>simp at hf⊢;omega
     |false=>simp at hf⊢;omega
    rw[hb]at CM
    have hsum:gh.length+gt.length≤8:=by cases ct<;>simp at hf<;>omega
    have HZ:Hid (vtz (yEz s.data.toList)=.tuple #[.agg ((toI (x5z gh gt)).map (Value.int .i64)).toArray,.bool true]):=by
     show _=_
     rw[HP.out,if_pos hf]
     rfl
    clear hf hb HP
    go_wp2_with fail
    refine (CM.out _).mono ?_
    rintro e w' ⟨rfl,rfl⟩
    obtain ⟨fr,hfr⟩: ∃fr:Nat,8-gt.length=fr:=⟨_,rfl⟩
    have hfi:(8:Int)-(gt.length:Int)=(fr:Int):=by omega
    have hfr8:fr≤8:=by omega
    have sl1:=zkgz w4.heap.size fr hfr8
    have sl2:=znez w4.heap.size fr hfr8
    have HSP:Hid (splice (splice [.int .i64 0,.int .i64 0,.int .i64 0,.int .i64 0,.int .i64 0,.int .i64 0,.int .i64 0,.int .i64 0] 0 (zkz (toI gh))) fr (zkz (toI gt))=zkz (toI (x5z gh gt))):=by
     show _=_
     rw[←hfr]
     exact zkpz hsum
    have HFR:Hid (8-gt.length=fr):=hfr
    have HL1:Hid ((zkz (toI gh)).length=gh.length∧(zkz (toI gt)).length=gt.length):=⟨by rw[yWz,xyz],by rw[yWz,xyz]⟩
    have H1:Hid (∀v∈zkz (toI gh),v.oneCell'=true):=fun v hv=>by
     obtain ⟨z,_,rfl⟩:=List.mem_map.1 hv
     rfl
    have H2:Hid (∀v∈zkz (toI gt),v.oneCell'=true):=fun v hv=>by
     obtain ⟨z,_,rfl⟩:=List.mem_map.1 hv
     rfl
    have HBA:Hid (Below w4.heap.size w4 (w4.alloc (.cells #[.int .i64 0,.int .i64 0,.int .i64 0,.int .i64 0,.int .i64 0,.int .i64 0,.int .i64 0,.int .i64 0] 24))):=(Below.refl _ w4).alloc (Nat.le_refl _) _
    have HG4:Hid ((w4.alloc (.cells #[.int .i64 0,.int .i64 0,.int .i64 0,.int .i64 0,.int .i64 0,.int .i64 0,.int .i64 0,.int .i64 0] 24)).heap[w4.heap.size]? =some (.cells ([.int .i64 0,.int .i64 0,.int .i64 0,.int .i64 0,.int .i64 0,.int .i64 0,.int .i64 0,.int .i64 0]:List Value).toArray 24 (0,0))):=heap_alloc_new w4 _
    have HS1:Hid (∀W,Below w4.heap.size w4 W→0<(zkz (toI gh)).length→ ∃ad,aoh=some ad∧ ∀(j:Nat) (v:Value),(zkz (toI gh))[j]? =some v→W.cell? (ad.add j)=some v):=fun W hb h0=>by
     obtain ⟨g,h1,_,h3⟩:=HRH.out (by rw[yWz]at h0;exact h0)
     refine ⟨⟨g,0,none⟩,h1,fun j v hj=> ?_⟩
     obtain ⟨hjl,rfl⟩:=List.getElem?_eq_some_iff.1 hj
     rw[yWz]at hjl
     rw[Addr.add_lit,Nat.zero_add,cell_later hb (h3 j hjl)]
     simp[zkz,List.getD,hjl]
    have HS2:Hid (∀W,Below w4.heap.size w4 W→0<(zkz (toI gt)).length→ ∃ad,aot=some ad∧ ∀(j:Nat) (v:Value),(zkz (toI gt))[j]? =some v→W.cell? (ad.add j)=some v):=fun W hb h0=>by
     obtain ⟨g,h1,_,h3⟩:=HRT.out (by rw[yWz]at h0;exact h0)
     refine ⟨⟨g,0,none⟩,h1,fun j v hj=> ?_⟩
     obtain ⟨hjl,rfl⟩:=List.getElem?_eq_some_iff.1 hj
     rw[yWz]at hjl
     rw[Addr.add_lit,Nat.zero_add,cell_later hb (h3 j hjl)]
     simp[zkz,List.getD,hjl]
    have HTG:Hid (0<gt.length→(if 8=fr then 0 else fr)=fr):=fun h=>if_neg (by omega)
    generalize (if 8=fr then 0 else fr)=o2 at sl2 HTG
    have HFL:Hid ((toI (x5z gh gt)).length=8):=by
     show _=_
     rw[xyz]
     unfold x5z
     simp
     omega
    clear hfr
    generalize zkz (toI gh)=c1 at HSP HL1 H1 HS1
    generalize zkz (toI gt)=c2 at HSP HL1 H2 HS2
    have hi1:(Tryz.prog.info? 3).map (·.size)=some 1:=by kernel_rfl
    go_wp2_with ((with_reducible show wpList _ _ _ ({dst:=_,op:=Op.call {callee:=Callee.builtin Builtin.copy,args:=_,argTypes:=_},type:=_,pos:=_,after:=_,guard:=_}::_) _ _);refine wpList_copy_splice (by rfl) _ _ 95 95 (by rfl) 3 Tryz.underlying95 hi1 (some ⟨w4.heap.size,0,none⟩) aoh fr fr gh.length caph (by rfl) (by rfl) w4.heap.size 0 [.int .i64 0,.int .i64 0,.int .i64 0,.int .i64 0,.int .i64 0,.int .i64 0,.int .i64 0,.int .i64 0] 24 HG4.out c1 (by rw[HL1.out.1];have:=HFR.out;exact (Nat.min_eq_left (by omega)).symm) (fun h=>⟨rfl,HS1.out _ HBA.out h⟩) (by have:=HL1.out;simp;omega) H1.out w4.heap.size w4 HBA.out (Nat.le_refl _) ?_)
    intro w5 HG5 hB5
    go_wp2_with ((with_reducible show wpList _ _ _ ({dst:=_,op:=Op.call {callee:=Callee.builtin Builtin.copy,args:=_,argTypes:=_},type:=_,pos:=_,after:=_,guard:=_}::_) _ _);refine wpList_copy_splice (by rfl) _ _ 95 95 (by rfl) 3 Tryz.underlying95 hi1 (some ⟨w4.heap.size,o2,none⟩) aot (8-fr) (8-fr) gt.length capt (by rfl) (by rfl) w4.heap.size fr (splice [.int .i64 0,.int .i64 0,.int .i64 0,.int .i64 0,.int .i64 0,.int .i64 0,.int .i64 0,.int .i64 0] 0 c1) 24 HG5.out c2 (by rw[HL1.out.2];have:=HFR.out;exact (Nat.min_eq_left (by omega)).symm) (fun h=>⟨by rw[HTG.out (by have:=HL1.out;omega)],HS2.out _ hB5 h⟩) (by have:=HL1.out;have:=HFR.out;rw[length_splice _ _ _ (by simp;omega)];simp;omega) H2.out w4.heap.size w4 hB5 (Nat.le_refl _) ?_)
    intro w6 HG6 hB6
    have hg6:=HG6.out
    rw[HSP.out]at hg6
    obtain ⟨x0,x1,x2,x3,x4,x5,x6,x7,hx⟩:=jRz HFL.out
    rw[hx]at hg6 HZ
    have o0:=v8z hg6 0
    have o1:=v8z hg6 1
    have o2:=v8z hg6 2
    have o3:=v8z hg6 3
    have o4:=v8z hg6 4
    have o5:=v8z hg6 5
    have o6:=v8z hg6 6
    have o7:=v8z hg6 7
    simp[zkz]at o0 o1 o2 o3 o4 o5 o6 o7
    have RA:=AR3.out.later hB6
    have B6:=B3.out.trans (hB6.mono B3.out.size)
    clear hg6 HG6 HG5 hB5 hB6 hx HSP HS1 HS2 H1 H2 HG4
    have r0:=(RA.2 0 (by decide)).1
    have r1:=(RA.2 1 (by decide)).1
    have r2:=(RA.2 2 (by decide)).1
    have r3:=(RA.2 3 (by decide)).1
    have r4:=(RA.2 4 (by decide)).1
    have r5:=(RA.2 5 (by decide)).1
    have r6:=(RA.2 6 (by decide)).1
    have r7:=(RA.2 7 (by decide)).1
    have f0:=(RA.2 0 (by decide)).2
    have f1:=(RA.2 1 (by decide)).2
    have f2:=(RA.2 2 (by decide)).2
    have f3:=(RA.2 3 (by decide)).2
    have f4:=(RA.2 4 (by decide)).2
    have f5:=(RA.2 5 (by decide)).2
    have f6:=(RA.2 6 (by decide)).2
    have f7:=(RA.2 7 (by decide)).2
    have HRA:=zPz RA
    clear RA
    go_wp2_with fail
    refine bodyPost_ret (z7z rfl _ _ w.heap.size true x0 x1 x2 x3 x4 x5 x6 x7 rfl rfl (ygz HRA.out x0 x1 x2 x3 x4 x5 x6 x7)) rfl ⟨by rw[HZ.out];rfl,zTz B6 (Nat.le_refl _) x0 x1 x2 x3 x4 x5 x6 x7⟩
   have hb:(if ct then decide ((gh.length:Int)+(gt.length:Int)<8)else ((gh.length:Int)+(gt.length:Int)==8))=false:=by
    cases ct with
    |true=>simp at hf⊢;omega
    |false=>simp at hf⊢;omega
   rw[hb]at CM
   have HZ:Hid (vtz (yEz s.data.toList)=vtz none):=by
    show _=_
    rw[HP.out,if_neg hf]
   clear hf hb HP
   go_wp2_with fail
   refine (CM.out _).mono ?_
   rintro e w' ⟨rfl,rfl⟩
   have RA:=AR3.out
   have r0:=(RA.2 0 (by decide)).1
   have r1:=(RA.2 1 (by decide)).1
   have r2:=(RA.2 2 (by decide)).1
   have r3:=(RA.2 3 (by decide)).1
   have r4:=(RA.2 4 (by decide)).1
   have r5:=(RA.2 5 (by decide)).1
   have r6:=(RA.2 6 (by decide)).1
   have r7:=(RA.2 7 (by decide)).1
   have f0:=(RA.2 0 (by decide)).2
   have f1:=(RA.2 1 (by decide)).2
   have f2:=(RA.2 2 (by decide)).2
   have f3:=(RA.2 3 (by decide)).2
   have f4:=(RA.2 4 (by decide)).2
   have f5:=(RA.2 5 (by decide)).2
   have f6:=(RA.2 6 (by decide)).2
   have f7:=(RA.2 7 (by decide)).2
   have HRA:=zPz RA
   clear RA
   go_wp2_with fail
   refine bodyPost_ret (z7z rfl _ _ w.heap.size false 0 0 0 0 0 0 0 0 rfl rfl (ygz HRA.out 0 0 0 0 0 0 0 0)) rfl ⟨by rw[HZ.out];rfl,zTz B3.out (Nat.le_refl _) 0 0 0 0 0 0 0 0⟩
theorem zskz(x0 x1 x2 x3 x4 x5 x6 x7:Int)(w:World):
  Calls Tryz.prog 129 #[.agg #[.int .i64 x0,.int .i64 x1,.int .i64 x2,.int .i64 x3,.int .i64 x4,.int .i64 x5,.int .i64 x6,.int .i64 x7],.agg #[.int .i64 x0,.int .i64 x1,.int .i64 x2,.int .i64 x3,.int .i64 x4,.int .i64 x5,.int .i64 x6,.int .i64 x7]] w fun e w'=>e=.returned (.bool true)∧Below w.heap.size w w':=by
 have H1:Hid (∀k,k<8→((w.alloc (.cells #[.int .i64 x0,.int .i64 x1,.int .i64 x2,.int .i64 x3,.int .i64 x4,.int .i64 x5,.int .i64 x6,.int .i64 x7] 24)).alloc (.cells #[.int .i64 x0,.int .i64 x1,.int .i64 x2,.int .i64 x3,.int .i64 x4,.int .i64 x5,.int .i64 x6,.int .i64 x7] 24)).cell? ⟨w.heap.size,k,none⟩=some (.int .i64 ([x0,x1,x2,x3,x4,x5,x6,x7].getD k 0))):=fun k hk=>cell_later ((Below.refl _ _).alloc (Nat.le_refl _) _) (zgaz w x0 x1 x2 x3 x4 x5 x6 x7 k hk)
 have H2:Hid (∀k,k<8→((w.alloc (.cells #[.int .i64 x0,.int .i64 x1,.int .i64 x2,.int .i64 x3,.int .i64 x4,.int .i64 x5,.int .i64 x6,.int .i64 x7] 24)).alloc (.cells #[.int .i64 x0,.int .i64 x1,.int .i64 x2,.int .i64 x3,.int .i64 x4,.int .i64 x5,.int .i64 x6,.int .i64 x7] 24)).cell? ⟨w.heap.size+1,k,none⟩=some (.int .i64 ([x0,x1,x2,x3,x4,x5,x6,x7].getD k 0))):=fun k hk=>by
  have h:=zgaz (w.alloc (.cells #[.int .i64 x0,.int .i64 x1,.int .i64 x2,.int .i64 x3,.int .i64 x4,.int .i64 x5,.int .i64 x6,.int .i64 x7] 24)) x0 x1 x2 x3 x4 x5 x6 x7 k hk
  rw[show (w.alloc (.cells #[.int .i64 x0,.int .i64 x1,.int .i64 x2,.int .i64 x3,.int .i64 x4,.int .i64 x5,.int .i64 x6,.int .i64 x7] 24)).heap.size=w.heap.size+1 by simp]at h
  exact h
 generalize [x0,x1,x2,x3,x4,x5,x6,x7]=z at H1 H2
 go_enter Tryz.func129,Tryz.ntmps129
 go_wp2
 have B1:Below w.heap.size w ((w.alloc (.cells #[.int .i64 x0,.int .i64 x1,.int .i64 x2,.int .i64 x3,.int .i64 x4,.int .i64 x5,.int .i64 x6,.int .i64 x7] 24)).alloc (.cells #[.int .i64 x0,.int .i64 x1,.int .i64 x2,.int .i64 x3,.int .i64 x4,.int .i64 x5,.int .i64 x6,.int .i64 x7] 24)):=((Below.refl _ w).alloc (Nat.le_refl _) _).alloc (by simp) _
 generalize ((w.alloc (.cells #[.int .i64 x0,.int .i64 x1,.int .i64 x2,.int .i64 x3,.int .i64 x4,.int .i64 x5,.int .i64 x6,.int .i64 x7] 24)).alloc (.cells #[.int .i64 x0,.int .i64 x1,.int .i64 x2,.int .i64 x3,.int .i64 x4,.int .i64 x5,.int .i64 x6,.int .i64 x7] 24))=W at H1 H2 B1⊢
 go_loopw[5] (fun i wr=> ∃k:Nat,k≤8∧i=.int .i64 k∧Below W.heap.size W wr) (fun i _=>8-(intOf i).toNat)
 case atStart=>exact ⟨0,Nat.zero_le _,rfl,Below.refl _ _⟩
 obtain ⟨k,hk,rfl,hbel⟩:=hrel
 by_cases hlt:k<8
 ·have ca:=cell_later hbel (H1.out k hlt)
  have cb:=cell_later hbel (H2.out k hlt)
  generalize z.getD k 0=x at ca cb
  have hki:(k:Int)<8:=by omega
  go_wp2
  go_quiet (fail)
  go_wp2
  go_roundw
  case rel=>exact ⟨k+1,by omega,by go_num,⟨hbel.os,hbel.tape,hbel.output,hbel.size,hbel.block⟩⟩
  case measure=>simp[intOf];omega
 have hki: ¬(k:Int)<8:=by omega
 go_wp2
 go_ret
 exact ⟨rfl,B1.trans (hbel.mono B1.size)⟩
theorem zbhz(l:List UInt8): ∀gs,yEz l=some gs→gs.length=8:=by
 intro gs h
 unfold yEz at h
 split at h
 ·split at h
  ·cases h
  split at h
  ·cases h;assumption
  cases h
 split at h
 ·split at h
  ·cases h
   unfold x5z
   simp
   omega
  cases h
 cases h
theorem zlTz{r:Option (List Nat)}(h: ∀gs,r=some gs→gs.length=8): ∃(x0 x1 x2 x3 x4 x5 x6 x7:Int) (b:Bool),vtz r=.tuple #[.agg #[.int .i64 x0,.int .i64 x1,.int .i64 x2,.int .i64 x3,.int .i64 x4,.int .i64 x5,.int .i64 x6,.int .i64 x7],.bool b]:=by
 cases r with
 |none=>exact ⟨0,0,0,0,0,0,0,0,false,rfl⟩
 |some gs=>
  obtain ⟨x0,x1,x2,x3,x4,x5,x6,x7,hx⟩:=jRz (z:=toI gs) (by rw[xyz];exact h gs rfl)
  refine ⟨x0,x1,x2,x3,x4,x5,x6,x7,true,?_⟩
  show Value.tuple #[.agg ((toI gs).map (Value.int .i64)).toArray,.bool true]=_
  rw[hx]
  rfl
def yNz(D:Nat)(w:World)(ao:Option Addr)(len:Nat):Prop:=
 len=0∨ ∃b off,ao=some ⟨b,off,none⟩∧b<D∧ ∀j,j<len→ ∃x:Int,w.cell? ⟨b,off+j,none⟩=some (.int .u8 x)∧0≤x∧x≤255
def Cur(D B:Nat)(ao:Option Addr)(len cap:Nat)(w:World):Prop:=
 ∃i h:Int,w.heap[B]? =some (.cells #[.slice ao len cap,.int .i64 i,.int .i64 h] 93 (0,0))∧0≤i∧i≤len∧len≤1048576∧D≤B∧yNz D w ao len
theorem zbiz(n:Int):bits .and .i64 n 255=n%256:=by
 have h255:(BitVec.ofInt 64 255).toNat=2^8-1:=by decide
 have key:(BitVec.ofInt 64 n&&&BitVec.ofInt 64 255).toNat=(n%((2^64:Nat):Int)).toNat%2^8:=by
  rw[BitVec.toNat_and,BitVec.toNat_ofInt,h255,Nat.and_two_pow_sub_one_eq_mod]
 show IntKind.i64.wrap ((BitVec.ofInt 64 n&&&BitVec.ofInt 64 255).toNat:Nat)=n%256
 rw[key,IntKind.wrap_i64]
 omega
theorem yNz.grown{D:Nat}{w w':World}{ao:Option Addr}{len:Nat}(h:yNz D w ao len)(hb: ∀k,k<D→w'.heap[k]? =w.heap[k]?):yNz D w' ao len:=by
 rcases h with h|⟨b,off,h1,h2,h3⟩
 ·exact .inl h
 refine .inr ⟨b,off,h1,h2,fun j hj=> ?_⟩
 obtain ⟨x,h4,h5⟩:=h3 j hj
 exact ⟨x,(World.cell?_of_block (w:=w) (a:=⟨b,off+j,none⟩) (hb b h2)).trans h4,h5⟩
theorem zhSz{w:World}{B k:Nat}{cs:Array Value}{t:TypeId}(v:Value)(h:w.heap[B]? =some (.cells cs t (0,0))):(w.setCell ⟨B,k,none⟩ v).heap[B]? =some (.cells (cs.setIfInBounds k v) t (0,0)):=
 heap_setCell_same w B k cs t v h
theorem Cur.seth{D B:Nat}{ao:Option Addr}{len cap:Nat}{w:World}{i h:Int}(hc:w.heap[B]? =some (.cells #[.slice ao len cap,.int .i64 i,.int .i64 h] 93 (0,0)))(h0:0≤i)(h1:i≤len)(hl:len≤1048576)(hDB:D≤B)(hcode:yNz D w ao len)(h':Int):
  Cur D B ao len cap (w.setCell ⟨B,2,none⟩ (.int .i64 h'))∧w.grownBy (w.setCell ⟨B,2,none⟩ (.int .i64 h')) (some B):=by
 refine ⟨⟨i,h',?_,h0,h1,hl,hDB,hcode.grown fun k hk=>Below.heap_setCell _ _ _ _ (by simp;omega)⟩,⟨rfl,rfl,rfl,by simp[World.setCell],fun k _ hk=>Below.heap_setCell _ _ _ _ (fun e=>hk (by simp[e]))⟩⟩
 rw[zhSz _ hc]
 rfl
theorem Cur.seti{D B:Nat}{ao:Option Addr}{len cap:Nat}{w:World}{i h:Int}(hc:w.heap[B]? =some (.cells #[.slice ao len cap,.int .i64 i,.int .i64 h] 93 (0,0)))(hl:len≤1048576)(hDB:D≤B)(hcode:yNz D w ao len)(i':Int)(h0:0≤i')(h1:i'≤len):
  Cur D B ao len cap (w.setCell ⟨B,1,none⟩ (.int .i64 i'))∧w.grownBy (w.setCell ⟨B,1,none⟩ (.int .i64 i')) (some B):=by
 refine ⟨⟨i',h,?_,h0,h1,hl,hDB,hcode.grown fun k hk=>Below.heap_setCell _ _ _ _ (by simp;omega)⟩,⟨rfl,rfl,rfl,by simp[World.setCell],fun k _ hk=>Below.heap_setCell _ _ _ _ (fun e=>hk (by simp[e]))⟩⟩
 rw[zhSz _ hc]
 rfl
theorem zesz{w:World}{B:Nat}{a b c:Value}{t:TypeId}(h:w.heap[B]? =some (.cells #[a,b,c] t (0,0))):
  w.cell? ⟨B,0,none⟩=some a∧w.cell? ⟨B,1,none⟩=some b∧w.cell? ⟨B,2,none⟩=some c∧ ∀j,w.frozen? ⟨B,j,none⟩=false:=by
 refine ⟨?_,?_,?_,fun j=>frozen_of_row w B j _ t h⟩<;>(rw[cell_of_row w B _ _ t (0,0) h];rfl)
theorem Cur.drewN{D B:Nat}{ao:Option Addr}{len cap:Nat}{w:World}(h:Cur D B ao len cap w)(n:Nat):Cur D B ao len cap (w.drewN n):=h
theorem zgfz{w w':World}{row:Option Nat}(h:w.grownBy w' row)(n:Nat):w.grownBy (w'.drewN n) row:=⟨h.os,h.tape,h.output,h.size,h.block⟩
theorem zggz(D B:Nat)(ao:Option Addr)(len cap:Nat)(w:World)(hcur:Cur D B ao len cap w):
  Calls Tryz.prog 111 #[.pointer (some ⟨B,0,none⟩)] w fun e w'=> ∃x:Int,0≤x∧x≤255∧e=.returned (.int .i64 x)∧Cur D B ao len cap w'∧w.grownBy w' (some B):=by
 obtain ⟨i,h,hc,h0,h1,hl,hDB,hcode⟩:=hcur
 obtain ⟨c0,c1,c2,cf⟩:=zesz hc
 have f2:=cf 2
 have HS:Hid (∀h',Cur D B ao len cap (w.setCell ⟨B,2,none⟩ (.int .i64 h'))∧w.grownBy (w.setCell ⟨B,2,none⟩ (.int .i64 h')) (some B)):=fun h'=>Cur.seth hc h0 h1 hl hDB hcode h'
 clear hc cf hcode hDB
 go_enter Tryz.func111,Tryz.ntmps111
 go_upto_region 1 with fail
 go_cut [] (fun w1=>Cur D B ao len cap w1∧w.grownBy w1 (some B))
 case first=>
  go_wp2_with fail
  go_meet
  case rel=>exact HS.out _
 clear HS c0 c1 c2 f2 h0 h1 hl
 go_upto_region 2 with fail
 go_cut [3] (fun v w1=> ∃x:Int,v=.int .i64 x∧0≤x∧x≤255∧Cur D B ao len cap w1∧w.grownBy w1 (some B))
 case first=>
  obtain ⟨hcu,hgr⟩:=hcut
  have HU:Hid (Cur D B ao len cap wc):=hcu
  obtain ⟨i',h',hc,h0,h1,hl,hDB,hcode⟩:=hcu
  obtain ⟨c0,c1,c2,cf⟩:=zesz hc
  clear hc hcode cf hDB
  go_quiet (fail)
  go_wp2_with fail
  go_meet
  case rel=>
   refine ⟨_,rfl,?_,?_,HU.out.drewN _,zgfz hgr _⟩
   ·rw[zbiz];omega
   rw[zbiz];omega
 obtain ⟨x,rfl,hx0,hx1,hcu,hgr⟩:=hcut
 have HU:Hid (Cur D B ao len cap wc):=hcu
 obtain ⟨i',h',hc,h0,h1,hl,hDB,hcode⟩:=hcu
 have HI:Hid (∀i'':Int,0≤i''→i''≤len→Cur D B ao len cap (wc.setCell ⟨B,1,none⟩ (.int .i64 i''))∧wc.grownBy (wc.setCell ⟨B,1,none⟩ (.int .i64 i'')) (some B)):=fun i'' a b=>Cur.seti hc hl hDB hcode i'' a b
 obtain ⟨c0,c1,c2,cf⟩:=zesz hc
 have f1:=cf 1
 clear hc cf hDB
 by_cases hlt:i'<(len:Int)
 ·rcases hcode with hz|⟨b,off,rfl,hb,hcells⟩
  ·omega
  obtain ⟨n,rfl⟩:=Int.eq_ofNat_of_zero_le h0
  obtain ⟨y,cy,hy0,hy1⟩:=hcells n (by omega)
  clear hcells c2
  go_wp2_with fail
  go_quiet (fail)
  go_wp2_with fail
  go_quiet (fail)
  go_wp2_with fail
  go_ret
  refine ⟨_,?_,?_,rfl,?_,?_⟩
  ·rw[zbiz];omega
  ·rw[zbiz];omega
  ·exact (HI.out ((n:Int)+1) (by omega) (by omega)).1
  have g:=ztz hgr (HI.out ((n:Int)+1) (by omega) (by omega)).2
  exact ⟨g.os,g.tape,g.output,g.size,g.block⟩
 clear hcode c2 f1
 go_wp2_with fail
 go_quiet (fail)
 go_wp2_with fail
 go_ret
 exact ⟨x,hx0,hx1,rfl,HU.out.drewN _,zgfz hgr _⟩
theorem vuz(n:Int)(D B:Nat)(ao:Option Addr)(len cap:Nat)(w:World)(hn:0<n)(hn1:n≤1099511627776)(hcur:Cur D B ao len cap w):
  Calls Tryz.prog 50 #[.pointer (some ⟨B,0,none⟩),.int .i64 n] w fun e w'=> ∃x:Int,0≤x∧x<n∧e=.returned (.int .i64 x)∧Cur D B ao len cap w'∧w.grownBy w' (some B):=by
 have hz: ¬n≤0:=by omega
 have hne:(n==0)=false:=by simp;omega
 have HC:Hid (Cur D B ao len cap w):=hcur
 clear hcur
 by_cases h256:n≤256
 ·go_enter Tryz.func50,Tryz.ntmps50
  go_wp2_with fail
  refine (zggz _ _ _ _ _ _ HC.out).mono ?_
  rintro e wa ⟨x,hx0,hx1,rfl,ca,ga⟩
  have CA:Hid (Cur D B ao len cap wa):=ca
  clear ca
  go_wp2_with fail
  go_ret
  refine ⟨_,?_,?_,rfl,CA.out,ga⟩
  ·first|exact Int.emod_nonneg _ (by omega)|omega
  first|exact Int.emod_lt_of_pos _ hn|omega
 go_enter Tryz.func50,Tryz.ntmps50
 go_wp2_with fail
 refine (zggz _ _ _ _ _ _ HC.out).mono ?_
 rintro e wa ⟨x,hx0,hx1,rfl,ca,ga⟩
 have CA:Hid (Cur D B ao len cap wa):=ca
 clear ca
 go_wp2_with fail
 refine (zggz _ _ _ _ _ _ CA.out).mono ?_
 rintro e wb ⟨y,hy0,hy1,rfl,cb,gb⟩
 have CB:Hid (Cur D B ao len cap wb):=cb
 clear cb
 go_wp2_with fail
 refine (zggz _ _ _ _ _ _ CB.out).mono ?_
 rintro e wc ⟨z,hz0,hz1,rfl,cc,gc⟩
 have CC:Hid (Cur D B ao len cap wc):=cc
 clear cc
 go_wp2_with fail
 go_ret
 refine ⟨_,?_,?_,rfl,CC.out,ztz (ztz ga gb) gc⟩
 ·first|exact Int.emod_nonneg _ (by omega)|omega
 first|exact Int.emod_lt_of_pos _ hn|omega
theorem zghz(n:Int)(D B:Nat)(ao:Option Addr)(len cap:Nat)(w:World)(hn:0<n)(hn1:n≤1099511627776)(hcur:Cur D B ao len cap w):
  Calls Tryz.prog 49 #[.pointer (some ⟨B,0,none⟩),.int .i64 n] w fun e w'=> ∃b:Bool,e=.returned (.bool b)∧Cur D B ao len cap w'∧w.grownBy w' (some B):=by
 have HC:Hid (Cur D B ao len cap w):=hcur
 clear hcur
 go_enter Tryz.func49,Tryz.ntmps49
 go_wp2_with fail
 refine (vuz n _ _ _ _ _ _ hn hn1 HC.out).mono ?_
 rintro e wa ⟨x,hx0,hx1,rfl,ca,ga⟩
 have CA:Hid (Cur D B ao len cap wa):=ca
 clear ca
 go_wp2_with fail
 go_ret
 exact ⟨_,rfl,CA.out,ga⟩
theorem ztcz(m g cp G:Nat)(zs:List Int)(D B:Nat)(ao:Option Addr)(len cap:Nat)(w:World)(hm:0<m)(hm1:m≤1099511627776)(hcur:Cur D B ao len cap w)
  (hown:w.ownsRow G 3 1 (.slice (some ⟨g,0,none⟩) m cp) m (zkz zs)) (hgB:g≠B):
  Calls Tryz.prog 77 #[.pointer (some ⟨B,0,none⟩),.slice (some ⟨g,0,none⟩) m cp] w fun e w'=> ∃z:Int,z∈zs∧e=.returned (.int .i64 z)∧Cur D B ao len cap w'∧w.grownBy w' (some B):=by
 have HC:Hid (Cur D B ao len cap w):=hcur
 clear hcur
 go_enter Tryz.func77,Tryz.ntmps77
 go_wp2_with fail
 refine (vuz (m:Int) _ _ _ _ _ _ (by omega) (by omega) HC.out).mono ?_
 rintro e wa ⟨x,hx0,hx1,rfl,ca,ga⟩
 have CA:Hid (Cur D B ao len cap wa):=ca
 have oa:wa.ownsRow G 3 1 (.slice (some ⟨g,0,none⟩) m cp) m (zkz zs):=hown.kept ga (by simp[Value.ownBlock,hgB])
 obtain ⟨k,rfl⟩:=Int.eq_ofNat_of_zero_le hx0
 have cc:=zawz oa k (by omega)
 have hl:zs.length=m:=by have:=hown.1;simpa[zkz] using this
 have HM:Hid (zs.getD k 0∈zs):=by
  show _∈_
  rw[List.getD_eq_getElem?_getD,List.getElem?_eq_getElem (by omega)]
  exact List.getElem_mem _
 clear ca oa hown hl
 generalize zs.getD k 0=z at*
 go_wp2_with fail
 go_ret
 exact ⟨z,HM.out,rfl,CA.out,ga⟩
theorem l1Str(m g cp G:Nat)(fs:List ByteArray)(D B:Nat)(ao:Option Addr)(len cap:Nat)(w:World)(hm:0<m)(hm1:m≤1099511627776)(hcur:Cur D B ao len cap w)
  (hown:w.ownsRow G 9 1 (.slice (some ⟨g,0,none⟩) m cp) m (zrz fs)) (hgB:g≠B):
  Calls Tryz.prog 78 #[.pointer (some ⟨B,0,none⟩),.slice (some ⟨g,0,none⟩) m cp] w fun e w'=> ∃z:ByteArray,z∈fs∧e=.returned (.string z)∧Cur D B ao len cap w'∧w.grownBy w' (some B):=by
 have HC:Hid (Cur D B ao len cap w):=hcur
 clear hcur
 go_enter Tryz.func78,Tryz.ntmps78
 go_wp2_with fail
 refine (vuz (m:Int) _ _ _ _ _ _ (by omega) (by omega) HC.out).mono ?_
 rintro e wa ⟨x,hx0,hx1,rfl,ca,ga⟩
 have CA:Hid (Cur D B ao len cap wa):=ca
 have oa:wa.ownsRow G 9 1 (.slice (some ⟨g,0,none⟩) m cp) m (zrz fs):=hown.kept ga (by simp[Value.ownBlock,hgB])
 obtain ⟨k,rfl⟩:=Int.eq_ofNat_of_zero_le hx0
 have cc:=z0z oa k (by omega)
 have hl:fs.length=m:=by have:=hown.1;simpa[zrz] using this
 have HM:Hid (fs.getD k ByteArray.empty∈fs):=by
  show _∈_
  rw[List.getD_eq_getElem?_getD,List.getElem?_eq_getElem (by omega)]
  exact List.getElem_mem _
 clear ca oa hown hl
 generalize fs.getD k ByteArray.empty=z at*
 go_wp2_with fail
 go_ret
 exact ⟨z,HM.out,rfl,CA.out,ga⟩
theorem ztdz(ao:Option Addr)(len cap:Nat)(w:World)(hl:len≤1048576)(hcode:yNz w.heap.size w ao len):
  Calls Tryz.prog 30 #[.slice ao len cap] w fun e w'=> ∃B:Nat,e=.returned (.pointer (some ⟨B,0,none⟩))∧w.heap.size≤B∧Cur w.heap.size B ao len cap w'∧Below w.heap.size w w':=by
 have HC:Hid (∀h:Int,Cur w.heap.size w.heap.size ao len cap (w.alloc (.cells #[.slice ao len cap,.int .i64 0,.int .i64 h] 93))):=fun h=>
  ⟨0,h,heap_alloc_new w _,by omega,by omega,hl,Nat.le_refl _,hcode.grown fun k hk=>Below.heap_alloc w _ k hk⟩
 have HD:Hid (yNz w.heap.size w ao len):=hcode
 clear hcode
 go_enter Tryz.func30,Tryz.ntmps30
 go_wp2
 go_loop[3,4] (fun a i=> ∃(k:Nat) (h:Int),k≤len∧i=.int .i64 k∧a=.int .i64 h) (fun _ i=>len-(intOf i).toNat)
 case atStart=>exact ⟨0,_,Nat.zero_le _,rfl,rfl⟩
 obtain ⟨k,h,hk,rfl,rfl⟩:=hrel
 by_cases hlt:k<len
 ·by_cases h4:(k:Int)<4000
  ·rcases HD.out with hz|⟨b,off,rfl,hb,hcells⟩
   ·omega
   obtain ⟨y,cy,hy0,hy1⟩:=hcells k hlt
   clear hcells
   go_wp2
   go_round
   case rel=>exact ⟨k+1,_,by omega,by go_num,rfl⟩
   case measure=>simp[intOf];omega
  go_wp2
  go_ret
  exact ⟨w.heap.size,rfl,Nat.le_refl _,HC.out h,(Below.refl _ _).alloc (Nat.le_refl _) _⟩
 go_wp2
 go_ret
 exact ⟨w.heap.size,rfl,Nat.le_refl _,HC.out h,(Below.refl _ _).alloc (Nat.le_refl _) _⟩
def zlUz(M:Nat)(xs:List Value):Bool:=xs.all fun| .string z=>decide (z.size≤M)|_=>false
theorem zcuz{M:Nat}: ∀{xs:List Value},zlUz M xs=true→ ∃fs:List ByteArray,xs=zrz fs∧ ∀z∈fs,z.size≤M
 |[],_=>⟨[],rfl,fun z h=>by simp at h⟩
 |u::xs,h=>by
  simp only[zlUz,List.all_cons,Bool.and_eq_true]at h
  obtain ⟨h1,h2⟩:=h
  obtain ⟨fs,rfl,hf⟩:=zcuz (xs:=xs) h2
  cases u with
  |string z=>exact ⟨z::fs,rfl,fun y hy=>by rcases List.mem_cons.1 hy with rfl|hy;exact of_decide_eq_true h1;exact hf y hy⟩
  |_=>simp at h1
theorem zbOz(M m g cp G:Nat)(xs:List Value)(D B:Nat)(ao:Option Addr)(len cap:Nat)(w:World)(hm:0<m)(hm1:m≤1099511627776)(hcur:Cur D B ao len cap w)
  (hown:w.ownsRow G 9 1 (.slice (some ⟨g,0,none⟩) m cp) m xs) (hgB:g≠B) (hx:zlUz M xs=true):
  Calls Tryz.prog 78 #[.pointer (some ⟨B,0,none⟩),.slice (some ⟨g,0,none⟩) m cp] w fun e w'=> ∃z:ByteArray,z.size≤M∧e=.returned (.string z)∧Cur D B ao len cap w'∧w.grownBy w' (some B):=by
 obtain ⟨fs,rfl,hf⟩:=zcuz hx
 refine (l1Str m g cp G fs D B ao len cap w hm hm1 hcur hown hgB).mono ?_
 rintro e w' ⟨z,hz,he,hc,hg⟩
 exact ⟨z,hf z hz,he,hc,hg⟩
theorem Cur.lt{D B:Nat}{ao:Option Addr}{len cap:Nat}{w:World}(h:Cur D B ao len cap w):B<w.heap.size:=by
 obtain ⟨i,h',hc,_⟩:=h
 exact (Array.getElem?_eq_some_iff.1 hc).1
theorem Cur.keep{D B:Nat}{ao:Option Addr}{len cap:Nat}{w w':World}(h:Cur D B ao len cap w)(hB:w'.heap[B]? =w.heap[B]?)(hD: ∀k,k<D→w'.heap[k]? =w.heap[k]?):Cur D B ao len cap w':=by
 obtain ⟨i,h',hc,h0,h1,hl,hDB,hcode⟩:=h
 exact ⟨i,h',hB.trans hc,h0,h1,hl,hDB,hcode.grown hD⟩
theorem Cur.le{D B:Nat}{ao:Option Addr}{len cap:Nat}{w:World}(h:Cur D B ao len cap w):D≤B:=by
 obtain ⟨i,h',hc,h0,h1,hl,hDB,hcode⟩:=h
 exact hDB
theorem Cur.below{D B:Nat}{ao:Option Addr}{len cap:Nat}{w w':World}(h:Cur D B ao len cap w)(hb: ∀k,k<w.heap.size→w'.heap[k]? =w.heap[k]?):Cur D B ao len cap w':=by
 have hlt:=h.lt
 have hle:=h.le
 exact h.keep (hb B hlt) fun k hk=>hb k (by omega)
theorem Cur.alloc{D B:Nat}{ao:Option Addr}{len cap:Nat}{w:World}(h:Cur D B ao len cap w)(o:Obj):Cur D B ao len cap (w.alloc o):=h.below fun k hk=>Below.heap_alloc w o k hk
theorem xkz{w w1:World}{row:Option Nat}(h:w.grownBy w1 row)(o:Obj):w.grownBy (w1.alloc o) row:=ztz h (World.grownBy_alloc w1 o row)
theorem ztBz(ao:Option Addr)(len cap:Nat)(w:World)(h:(len:Int)≤1048576):Calls Tryz.prog 10 #[.slice ao len cap] w fun e w'=>e=.returned (.bool false)∧w=w':=by
 go_enter Tryz.func10,Tryz.ntmps10
 go_wp2
 go_ret
 exact ⟨zgz (by simp<;>omega),rfl⟩
theorem zslz(ao:Option Addr)(len cap:Nat)(w:World)(h:1048576<(len:Int)):Calls Tryz.prog 10 #[.slice ao len cap] w fun e w'=>e=.returned (.bool true)∧w=w':=by
 go_enter Tryz.func10,Tryz.ntmps10
 go_wp2
 go_ret
 exact ⟨zgz (by simp<;>omega),rfl⟩
theorem yNz.le{D D':Nat}{w:World}{ao:Option Addr}{len:Nat}(h:yNz D w ao len)(hD:D≤D'):yNz D' w ao len:=by
 rcases h with h|⟨b,off,h1,h2,h3⟩
 ·exact .inl h
 exact .inr ⟨b,off,h1,by omega,h3⟩
theorem yNz.later{w w':World}{ao:Option Addr}{len:Nat}(h:yNz w.heap.size w ao len)(hb:Below w.heap.size w w'):yNz w'.heap.size w' ao len:=
 (h.grown hb.block).le hb.size
end Go.Proofs.YtgcbaphbiaimoaaGreatDoor
