/- Parse6Impl, ArrMarks, Par6Eight, DrawWalk, Draw5Walk, AddrBack. -/
import Derived.Test.YtgcbaphbiaimoaaGreatDoorQF13
import Derived.Laws.CopyOwn
set_option maxHeartbeats 8000000
set_option maxRecDepth 100000
namespace Go.Proofs.YtgcbaphbiaimoaaGreatDoor
open Go.Value renaming int->I,string->L,tuple->H,bool->F,pointer->E
open Go.IntKind renaming i64->J
open Go.Ending renaming returned->Y
open Go.Obj renaming cells->Z
open _root_.Go.RowKit.Below renaming heap_alloc->zv,heap_setCell->ze,refl->zc
open _root_.Bool renaming and_eq_true->zj
open _root_.ByteArray renaming empty->zx
open _root_.Int renaming emod_lt_of_pos->zp,eq_ofNat_of_zero_le->zf,toNat->zy
open _root_.List renaming getD_eq_getElem?_getD->zd,getElem?_eq_getElem->zi,getElem?_eq_some_iff->zg,getElem_mem->zu,mem_cons->zo,mem_map->zr,not_mem_nil->zw,replicate->zk,size_toArray->zh
open _root_.Nat renaming le_refl->za,zero_add->zq,zero_le->zm
open _root_.Go.World renaming cell?_of_block->zl,grownBy_alloc->zn,ownsRow_lit->zt
open _root_.Go.Proofs.Tryz
open _root_.Go.Proofs.YtgcbaphbiaimoaaGreatDoor.Tryz
open Go.RowKit
def lP(l:List UInt8):List UInt8:=match cH l with
 |none=>l
 |some (a,_)=>a
def lQ(l:List UInt8):List UInt8:=match cH l with
 |none=>[]
 |some (_,b)=>b
theorem D4(l:List UInt8):Lib.cut l [58,58]=(lP l,lQ l,(cH l).isSome):=by
 rw[Dh];unfold lP lQ
 cases cH l<;>rfl
theorem D5(l:List UInt8):(lP l).length<=l.length/\(lQ l).length<=l.length:=by
 unfold lP lQ
 cases h:cH l with
 |none=>simp
 |some p=>
  obtain ⟨a,b⟩:=p
  have:=congrArg List.length (uH h)
  simp at this⊢;omega
theorem QB(l:List UInt8):rO l=match cX false (lP l),cX false (lQ l)with
  |some x,some y=>if (if (cH l).isSome then x.length+y.length<8 else x.length+y.length=8)then some (iA x y)else none
  |_,_=>none:=by
 unfold rO lP lQ
 cases h:cH l with
 |none=>
  simp only;rw[show cX false []=some [] from rfl]
  cases cX false l with
  |none=>rfl
  |some g=>
   simp only[Option.isSome_none,Bool.false_eq_true,if_false,List.length_nil,Nat.add_zero]
   by_cases h8:g.length=8
   .rw[if_pos h8,if_pos h8]
    simp[iA,h8]
   rw[if_neg h8,if_neg h8]
 |some p=>
  obtain ⟨a,b⟩:=p;simp only
  cases cX false a with
  |none=>rfl
  |some x=>
   cases cX false b with
   |none=>rfl
   |some y=>
    simp only[Option.isSome_some,if_true]
    by_cases h7:x.length+y.length<=7
    .rw[if_pos h7,if_pos om]
    rw[if_neg h7,if_neg om]
theorem UN(T:ByteArray)(w:World)(hs:T.size<=1048576)(hM:qE w):Calls prog 102 #[L T,L ⟨#[58,58]⟩] w fun e w'=>e=Y (H #[L ⟨(lP T.data.toList).toArray⟩,L ⟨(lQ T.data.toList).toArray⟩,F (cH T.data.toList).isSome])/\Below w.heap.size w w':=by
 obtain ⟨m,hm⟩:=hM;refine (strings_Cut T ⟨#[58,58]⟩ m w om hm).mono ?_;rintro e w' ⟨rfl,n,rfl⟩;refine ⟨?_,⟨rfl,rfl,rfl,za _,fun _ _=>rfl⟩⟩;rw[show (⟨#[58,58]⟩:ByteArray).data.toList=[58,58] from rfl,D4]
theorem nJ{z:List Int}(h:z.length=8): ∃a b c d e f g i:Int,z=[a,b,c,d,e,f,g,i]:=by
 match z,h with
 |[a,b,c,d,e,f,g,i],_=>exact ⟨a,b,c,d,e,f,g,i,rfl⟩
theorem lE{w:World}{g:Nat}{cs:Array Value}{t:TypeId}{fz:Nat×Nat}(h:w.heap[g]? =some (.cells cs t fz))(j:Nat):w.cell? ⟨g,j,none⟩=cs[j]? :=by
 unfold World.cell?;simp[h]
theorem XM: ∀{fs:List (List UInt8)} {gs:List Nat},grp false fs=some gs->gs.length=fs.length
 |[],gs,h=>by cases h;rfl
 |x::r,gs,h=>by
  rw[iH]at h
  cases hx:g16 x with
  |none=>rw[hx]at h;cases h
  |some v=>
   rw[hx]at h;simp only at h
   cases hr:grp false r with
   |none=>rw[hr]at h;cases h
   |some q=>
    rw[hr]at h
    cases h
    simp[XM hr]
theorem XN(b:UInt8): ∀l:List UInt8,(spl b l).length<=l.length+1
 |[]=>by simp[spl]
 |c::r=>by
  have ih:=XN b r;rw[spl];split
  .simp;omega
  cases hs:spl b r with
  |nil=>simp
  |cons x xs=>rw[hs]at ih;simp at ih⊢;omega
theorem QC{l:List UInt8}{gs:List Nat}(h:cX false l=some gs):gs.length<=l.length+1:=by
 unfold cX at h;split at h
 .cases h;simp
 rw[XM h];exact XN 58 l
theorem QD{a b:List Nat}(h:a.length+b.length<=8):splice (splice [I J 0,I J 0,I J 0,I J 0,I J 0,I J 0,I J 0,I J 0] 0 (aL (toI a))) (8-b.length) (aL (toI b))=aL (toI (iA a b)):=by
 have e0:([I J 0,I J 0,I J 0,I J 0,I J 0,I J 0,I J 0,I J 0]:List Value)=zk 8 (I J 0):=rfl;have la:(aL (toI a)).length=a.length:=by rw[eD,fR]
 have lb:(aL (toI b)).length=b.length:=by rw[eD,fR]
 have e1:splice (zk 8 (Value.int .i64 0)) 0 (aL (toI a))=aL (toI a)++zk (8-a.length) (Value.int .i64 0):=by
  unfold splice;rw[List.take_zero,List.nil_append,la,zq,List.drop_replicate]
 rw[e0,e1];unfold splice;rw[List.take_append,la,lb,List.take_of_length_le (by rw[la];omega),List.take_replicate,List.drop_of_length_le (by rw[List.length_append,la,List.length_replicate];omega),List.append_nil,show min (8-b.length-a.length) (8-a.length)=8-a.length-b.length by omega];unfold iA;simp[aL,toI]
theorem MA(s:ByteArray)(w:World)(hs:s.size<=1048576)(hT:Pow w)(hD:bK w)(hM:qE w):Calls prog 265 #[L s] w fun e w'=>e=Y (jG (dQ s.data.toList))/\Below w.heap.size w w':=by
 have CE:Hid (∀W,Pow W->bK W->Calls prog 277 #[L s] W fun e w'=> ∃T:ByteArray,e=Y (L T)/\rO T.data.toList=dQ s.data.toList/\T.size<=1048576/\Below W.heap.size W w'):=fun W a b=>Di s W hs a b
 have HT:Hid (Pow w):=hT;have HD:Hid (bK w):=hD;have HM:Hid (qE w):=hM;clear hT hD hM;have AR:=bN (sW w);have B0:Hid (Below w.heap.size w (w.alloc (Z #[I J 0,I J 0,I J 0,I J 0,I J 0,I J 0,I J 0,I J 0] 24))):=(zc _ w).alloc (za _) _;have Z0:Hid ((w.alloc (Z #[I J 0,I J 0,I J 0,I J 0,I J 0,I J 0,I J 0,I J 0] 24)).heap.size=w.heap.size+1):=by show _=_;simp
 go_enter func265,ntmps265;go_wp2_with fail;refine (CE.out _ (cN HT.out B0.out) (aT HD.out B0.out)).mono ?_;rintro e w1 ⟨T,rfl,hpt,hts,b1⟩;have HPT:Hid (rO T.data.toList=dQ s.data.toList):=hpt;have B1:=B0.out.trans (b1.mono B0.out.size);have CC:Hid (CB 102 #[L T,L ⟨#[58,58]⟩] w1 (H #[L ⟨(lP T.data.toList).toArray⟩,L ⟨(lQ T.data.toList).toArray⟩,F (cH T.data.toList).isSome])):=UN T w1 hts (iM HM.out B1);have hpl:=D5 T.data.toList;have htl:T.data.toList.length=T.size:=by simp
 rw[htl]at hpl;have CH:Hid (∀W,Calls prog 278 #[L ⟨(lP T.data.toList).toArray⟩] W fun e w'=>LZ W w' (cX false (lP T.data.toList)) e/\Below W.heap.size W w'):=fun W=>rY ⟨(lP T.data.toList).toArray⟩ W (by show (lP T.data.toList).toArray.size<=_;rw[zh];omega)
 have CR:Hid (∀W,Calls prog 278 #[L ⟨(lQ T.data.toList).toArray⟩] W fun e w'=>LZ W w' (cX false (lQ T.data.toList)) e/\Below W.heap.size W w'):=fun W=>rY ⟨(lQ T.data.toList).toArray⟩ W (by show (lQ T.data.toList).toArray.size<=_;rw[zh];omega)
 have HP:Hid (dQ s.data.toList=match cX false (lP T.data.toList),cX false (lQ T.data.toList)with
  |some x,some y=>if (if (cH T.data.toList).isSome then x.length+y.length<8 else x.length+y.length=8)then some (iA x y)else none
  |_,_=>none):=HPT.out.symm.trans (QB _)
 clear hpt HPT CE HT HD HM;generalize (⟨(lP T.data.toList).toArray⟩:ByteArray)=TH at CC CH;generalize (⟨(lQ T.data.toList).toArray⟩:ByteArray)=TT at CC CR;have HBH:Hid (∀gs,cX false (lP T.data.toList)=some gs->gs.length<=1048577):=fun gs h=>by have:=QC h;omega
 have HBT:Hid (∀gs,cX false (lQ T.data.toList)=some gs->gs.length<=1048577):=fun gs h=>by have:=QC h;omega
 clear hpl htl;generalize cX false (lP T.data.toList)=rh at CH HP HBH;generalize cX false (lQ T.data.toList)=rt at CR HP HBT;generalize (cH T.data.toList).isSome=ct at CC HP;go_wp2_with fail;refine CC.out.mono ?_;rintro e w2 ⟨rfl,b2⟩;go_wp2_with fail;refine (CH.out _).mono ?_;rintro e w3 ⟨hh,b3⟩;have b12:=b1.trans (b2.mono b1.size);have b13:=b12.trans (b3.mono b12.size);have k2:w.heap.size+1<=w2.heap.size:=by have:=Z0.out;have:=b12.size;omega
 have k3:w.heap.size+1<=w3.heap.size:=Nat.le_trans k2 b3.size
 cases rh with
 |none=>
  obtain rfl:e=Y (H #[.slice none 0 0,F false]):=hh
  have HZ:Hid (jG (dQ s.data.toList)=jG none):=by show _=_;rw[HP.out]
  go_wp2_with fail;refine (CR.out _).mono ?_;rintro e w4 ⟨ht,b4⟩;have b14:=b13.trans (b4.mono b13.size);have AR3:=bN (AR.out.later b14);have B3:Hid (Below w.heap.size w w4):=B0.out.trans (b14.mono B0.out.size);clear b1 b2 b3 b4 b12 b13 b14 B1 k2 k3 AR B0 Z0
  cases rt with
  |none=>
   obtain rfl:e=Y (H #[.slice none 0 0,F false]):=ht
   have RA:=AR3.out;have r0:=(RA.2 0 de).1;have r1:=(RA.2 1 de).1;have r2:=(RA.2 2 de).1;have r3:=(RA.2 3 de).1;have r4:=(RA.2 4 de).1;have r5:=(RA.2 5 de).1;have r6:=(RA.2 6 de).1;have r7:=(RA.2 7 de).1;have f0:=(RA.2 0 de).2;have f1:=(RA.2 1 de).2;have f2:=(RA.2 2 de).2;have f3:=(RA.2 3 de).2;have f4:=(RA.2 4 de).2;have f5:=(RA.2 5 de).2;have f6:=(RA.2 6 de).2;have f7:=(RA.2 7 de).2;have HRA:=bN RA;clear RA;go_wp2_with fail;refine bodyPost_ret (cI rfl _ _ w.heap.size false 0 0 0 0 0 0 0 0 rfl rfl (cR HRA.out 0 0 0 0 0 0 0 0)) rfl ⟨by rw[HZ.out];rfl,bV B3.out (za _) 0 0 0 0 0 0 0 0⟩
  |some gt=>
   obtain ⟨vt,rfl,ot⟩: ∃v:Value,e=Y (H #[v,F true])/\_:=ht;clear ot;have RA:=AR3.out;have r0:=(RA.2 0 de).1;have r1:=(RA.2 1 de).1;have r2:=(RA.2 2 de).1;have r3:=(RA.2 3 de).1;have r4:=(RA.2 4 de).1;have r5:=(RA.2 5 de).1;have r6:=(RA.2 6 de).1;have r7:=(RA.2 7 de).1;have f0:=(RA.2 0 de).2;have f1:=(RA.2 1 de).2;have f2:=(RA.2 2 de).2;have f3:=(RA.2 3 de).2;have f4:=(RA.2 4 de).2;have f5:=(RA.2 5 de).2;have f6:=(RA.2 6 de).2;have f7:=(RA.2 7 de).2;have HRA:=bN RA;clear RA;go_wp2_with fail;refine bodyPost_ret (cI rfl _ _ w.heap.size false 0 0 0 0 0 0 0 0 rfl rfl (cR HRA.out 0 0 0 0 0 0 0 0)) rfl ⟨by rw[HZ.out];rfl,bV B3.out (za _) 0 0 0 0 0 0 0 0⟩
 |some gh=>
  obtain ⟨vh,rfl,oh⟩: ∃v:Value,e=Y (H #[v,F true])/\w3.ownsRow w2.heap.size 3 1 v gh.length (aL (toI gh)):=hh;go_wp2_with fail;refine (CR.out _).mono ?_;rintro e w4 ⟨ht,b4⟩;have b14:=b13.trans (b4.mono b13.size);have AR3:=bN (AR.out.later b14);have B3:Hid (Below w.heap.size w w4):=B0.out.trans (b14.mono B0.out.size);have oh':=aH oh b4;obtain ⟨aoh,caph,rfl,rh0⟩:=wK oh' (fR gh);have HRH:Hid (lD w4 (w.heap.size+1) aoh (toI gh)):=fun h0=>by
   obtain ⟨g,h1,h2,h3⟩:=rh0 h0;exact ⟨g,h1,om,h3⟩
  clear oh oh' rh0 b1 b2 b3 b4 b12 b13 b14 B1 AR B0 Z0
  cases rt with
  |none=>
   obtain rfl:e=Y (H #[.slice none 0 0,F false]):=ht
   have HZ:Hid (jG (dQ s.data.toList)=jG none):=by show _=_;rw[HP.out]
   have RA:=AR3.out;have r0:=(RA.2 0 de).1;have r1:=(RA.2 1 de).1;have r2:=(RA.2 2 de).1;have r3:=(RA.2 3 de).1;have r4:=(RA.2 4 de).1;have r5:=(RA.2 5 de).1;have r6:=(RA.2 6 de).1;have r7:=(RA.2 7 de).1;have f0:=(RA.2 0 de).2;have f1:=(RA.2 1 de).2;have f2:=(RA.2 2 de).2;have f3:=(RA.2 3 de).2;have f4:=(RA.2 4 de).2;have f5:=(RA.2 5 de).2;have f6:=(RA.2 6 de).2;have f7:=(RA.2 7 de).2;have HRA:=bN RA;clear RA;go_wp2_with fail;refine bodyPost_ret (cI rfl _ _ w.heap.size false 0 0 0 0 0 0 0 0 rfl rfl (cR HRA.out 0 0 0 0 0 0 0 0)) rfl ⟨by rw[HZ.out];rfl,bV B3.out (za _) 0 0 0 0 0 0 0 0⟩
  |some gt=>
   obtain ⟨vt,rfl,ot⟩: ∃v:Value,e=Y (H #[v,F true])/\w4.ownsRow w3.heap.size 3 1 v gt.length (aL (toI gt)):=ht;obtain ⟨aot,capt,rfl,rt0⟩:=wK ot (fR gt);have HRT:Hid (lD w4 (w.heap.size+1) aot (toI gt)):=fun h0=>by
    obtain ⟨g,h1,h2,h3⟩:=rt0 h0;exact ⟨g,h1,om,h3⟩
   clear ot rt0 k2 k3;simp only at HP;have hbh:(gh.length:Int)<=1048577:=by have:=HBH.out gh rfl;omega
   have hbt:(gt.length:Int)<=1048577:=by have:=HBT.out gt rfl;omega
   have CM:Hid (∀W,CS 279 #[I J ((gh.length:Int)+(gt.length:Int)),F ct] W (F (if ct then decide ((gh.length:Int)+(gt.length:Int)<8)else ((gh.length:Int)+(gt.length:Int)==8)))):=fun W=>PZ _ ct W
   by_cases hf:(if ct then gh.length+gt.length<8 else gh.length+gt.length=8)
   .have hb:(if ct then decide ((gh.length:Int)+(gt.length:Int)<8)else ((gh.length:Int)+(gt.length:Int)==8))=true:=by
     cases ct with
     |true=>simp at hf⊢;omega
     |false=>simp at hf⊢;omega
    rw[hb]at CM;have hsum:gh.length+gt.length<=8:=by cases ct<;>simp at hf<;>omega
    have HZ:Hid (jG (dQ s.data.toList)=H #[.agg ((toI (iA gh gt)).map (Value.int .i64)).toArray,F true]):=by
     show _=_;rw[HP.out,if_pos hf];rfl
    clear hf hb HP;go_wp2_with fail;refine (CM.out _).mono ?_;rintro e w' ⟨rfl,rfl⟩;obtain ⟨fr,hfr⟩: ∃fr:Nat,8-gt.length=fr:=⟨_,rfl⟩;have hfi:(8:Int)-(gt.length:Int)=(fr:Int):=om;have hfr8:fr<=8:=om;have sl1:=PM w4.heap.size fr hfr8;have sl2:=XK w4.heap.size fr hfr8;have HSP:Hid (splice (splice [I J 0,I J 0,I J 0,I J 0,I J 0,I J 0,I J 0,I J 0] 0 (aL (toI gh))) fr (aL (toI gt))=aL (toI (iA gh gt))):=by
     show _=_;rw[<-hfr];exact QD hsum
    have HFR:Hid (8-gt.length=fr):=hfr;have HL1:Hid ((aL (toI gh)).length=gh.length/\(aL (toI gt)).length=gt.length):=⟨by rw[eD,fR],by rw[eD,fR]⟩;have H1:Hid (∀v∈aL (toI gh),v.oneCell'=true):=fun v hv=>by
     obtain ⟨z,_,rfl⟩:=zr.1 hv;rfl
    have H2:Hid (∀v∈aL (toI gt),v.oneCell'=true):=fun v hv=>by
     obtain ⟨z,_,rfl⟩:=zr.1 hv;rfl
    have HBA:Hid (Below w4.heap.size w4 (w4.alloc (Z #[I J 0,I J 0,I J 0,I J 0,I J 0,I J 0,I J 0,I J 0] 24))):=(zc _ w4).alloc (za _) _;have HG4:Hid ((w4.alloc (Z #[I J 0,I J 0,I J 0,I J 0,I J 0,I J 0,I J 0,I J 0] 24)).heap[w4.heap.size]? =some (.cells ([I J 0,I J 0,I J 0,I J 0,I J 0,I J 0,I J 0,I J 0]:List Value).toArray 24 (0,0))):=heap_alloc_new w4 _;have HS1:Hid (∀W,Below w4.heap.size w4 W->0<(aL (toI gh)).length-> ∃ad,aoh=some ad/\ ∀(j:Nat) (v:Value),(aL (toI gh))[j]? =some v->W.cell? (ad.add j)=some v):=fun W hb h0=>by
     obtain ⟨g,h1,_,h3⟩:=HRH.out (by rw[eD]at h0;exact h0);refine ⟨⟨g,0,none⟩,h1,fun j v hj=> ?_⟩;obtain ⟨hjl,rfl⟩:=zg.1 hj;rw[eD]at hjl;rw[Addr.add_lit,zq,cell_later hb (h3 j hjl)];simp[aL,List.getD,hjl]
    have HS2:Hid (∀W,Below w4.heap.size w4 W->0<(aL (toI gt)).length-> ∃ad,aot=some ad/\ ∀(j:Nat) (v:Value),(aL (toI gt))[j]? =some v->W.cell? (ad.add j)=some v):=fun W hb h0=>by
     obtain ⟨g,h1,_,h3⟩:=HRT.out (by rw[eD]at h0;exact h0);refine ⟨⟨g,0,none⟩,h1,fun j v hj=> ?_⟩;obtain ⟨hjl,rfl⟩:=zg.1 hj;rw[eD]at hjl;rw[Addr.add_lit,zq,cell_later hb (h3 j hjl)];simp[aL,List.getD,hjl]
    have HTG:Hid (0<gt.length->(if 8=fr then 0 else fr)=fr):=fun h=>if_neg om
    generalize (if 8=fr then 0 else fr)=o2 at sl2 HTG;have HFL:Hid ((toI (iA gh gt)).length=8):=by
     show _=_;rw[fR];unfold iA;simp;omega
    clear hfr;generalize aL (toI gh)=c1 at HSP HL1 H1 HS1;generalize aL (toI gt)=c2 at HSP HL1 H2 HS2;have hi1:(prog.info? 3).map (·.size)=some 1:=kr;go_wp2_with ((with_reducible show wpList _ _ _ ({dst:=_,op:=Op.call {callee:=Callee.builtin Builtin.copy,args:=_,argTypes:=_},type:=_,pos:=_,after:=_,guard:=_}::_) _ _);refine wpList_copy_splice (by rfl) _ _ 95 95 (by rfl) 3 underlying95 hi1 (some ⟨w4.heap.size,0,none⟩) aoh fr fr gh.length caph (by rfl) (by rfl) w4.heap.size 0 [I J 0,I J 0,I J 0,I J 0,I J 0,I J 0,I J 0,I J 0] 24 HG4.out c1 (by rw[HL1.out.1];have:=HFR.out;exact (Nat.min_eq_left om).symm) (fun h=>⟨rfl,HS1.out _ HBA.out h⟩) (by have:=HL1.out;simp;omega) H1.out w4.heap.size w4 HBA.out (za _) ?_);intro w5 HG5 hB5;go_wp2_with ((with_reducible show wpList _ _ _ ({dst:=_,op:=Op.call {callee:=Callee.builtin Builtin.copy,args:=_,argTypes:=_},type:=_,pos:=_,after:=_,guard:=_}::_) _ _);refine wpList_copy_splice (by rfl) _ _ 95 95 (by rfl) 3 underlying95 hi1 (some ⟨w4.heap.size,o2,none⟩) aot (8-fr) (8-fr) gt.length capt (by rfl) (by rfl) w4.heap.size fr (splice [I J 0,I J 0,I J 0,I J 0,I J 0,I J 0,I J 0,I J 0] 0 c1) 24 HG5.out c2 (by rw[HL1.out.2];have:=HFR.out;exact (Nat.min_eq_left om).symm) (fun h=>⟨by rw[HTG.out (by have:=HL1.out;omega)],HS2.out _ hB5 h⟩) (by have:=HL1.out;have:=HFR.out;rw[length_splice _ _ _ (by simp;omega)];simp;omega) H2.out w4.heap.size w4 hB5 (za _) ?_);intro w6 HG6 hB6;have hg6:=HG6.out;rw[HSP.out]at hg6;obtain ⟨x0,x1,x2,x3,x4,x5,x6,x7,hx⟩:=nJ HFL.out;rw[hx]at hg6 HZ;have o0:=lE hg6 0;have o1:=lE hg6 1;have o2:=lE hg6 2;have o3:=lE hg6 3;have o4:=lE hg6 4;have o5:=lE hg6 5;have o6:=lE hg6 6;have o7:=lE hg6 7;simp[aL]at o0 o1 o2 o3 o4 o5 o6 o7;have RA:=AR3.out.later hB6;have B6:=B3.out.trans (hB6.mono B3.out.size);clear hg6 HG6 HG5 hB5 hB6 hx HSP HS1 HS2 H1 H2 HG4;have r0:=(RA.2 0 de).1;have r1:=(RA.2 1 de).1;have r2:=(RA.2 2 de).1;have r3:=(RA.2 3 de).1;have r4:=(RA.2 4 de).1;have r5:=(RA.2 5 de).1;have r6:=(RA.2 6 de).1;have r7:=(RA.2 7 de).1;have f0:=(RA.2 0 de).2;have f1:=(RA.2 1 de).2;have f2:=(RA.2 2 de).2;have f3:=(RA.2 3 de).2;have f4:=(RA.2 4 de).2;have f5:=(RA.2 5 de).2;have f6:=(RA.2 6 de).2;have f7:=(RA.2 7 de).2;have HRA:=bN RA;clear RA;go_wp2_with fail;refine bodyPost_ret (cI rfl _ _ w.heap.size true x0 x1 x2 x3 x4 x5 x6 x7 rfl rfl (cR HRA.out x0 x1 x2 x3 x4 x5 x6 x7)) rfl ⟨by rw[HZ.out];rfl,bV B6 (za _) x0 x1 x2 x3 x4 x5 x6 x7⟩
   have hb:(if ct then decide ((gh.length:Int)+(gt.length:Int)<8)else ((gh.length:Int)+(gt.length:Int)==8))=false:=by
    cases ct with
    |true=>simp at hf⊢;omega
    |false=>simp at hf⊢;omega
   rw[hb]at CM;have HZ:Hid (jG (dQ s.data.toList)=jG none):=by
    show _=_;rw[HP.out,if_neg hf]
   clear hf hb HP;go_wp2_with fail;refine (CM.out _).mono ?_;rintro e w' ⟨rfl,rfl⟩;have RA:=AR3.out;have r0:=(RA.2 0 de).1;have r1:=(RA.2 1 de).1;have r2:=(RA.2 2 de).1;have r3:=(RA.2 3 de).1;have r4:=(RA.2 4 de).1;have r5:=(RA.2 5 de).1;have r6:=(RA.2 6 de).1;have r7:=(RA.2 7 de).1;have f0:=(RA.2 0 de).2;have f1:=(RA.2 1 de).2;have f2:=(RA.2 2 de).2;have f3:=(RA.2 3 de).2;have f4:=(RA.2 4 de).2;have f5:=(RA.2 5 de).2;have f6:=(RA.2 6 de).2;have f7:=(RA.2 7 de).2;have HRA:=bN RA;clear RA;go_wp2_with fail;refine bodyPost_ret (cI rfl _ _ w.heap.size false 0 0 0 0 0 0 0 0 rfl rfl (cR HRA.out 0 0 0 0 0 0 0 0)) rfl ⟨by rw[HZ.out];rfl,bV B3.out (za _) 0 0 0 0 0 0 0 0⟩

theorem qP(l:List UInt8): ∀gs,dQ l=some gs->gs.length=8:=by
 intro gs h;unfold dQ at h;split at h
 .split at h
  .cases h
  split at h
  .cases h;assumption
  cases h
 split at h
 .split at h
  .cases h
   unfold iA;simp;omega
  cases h
 cases h
theorem UO{r:Option (List Nat)}(h: ∀gs,r=some gs->gs.length=8): ∃(x0 x1 x2 x3 x4 x5 x6 x7:Int) (b:Bool),jG r=H #[.agg #[I J x0,I J x1,I J x2,I J x3,I J x4,I J x5,I J x6,I J x7],F b]:=by
 cases r with
 |none=>exact ⟨0,0,0,0,0,0,0,0,false,rfl⟩
 |some gs=>
  obtain ⟨x0,x1,x2,x3,x4,x5,x6,x7,hx⟩:=nJ (z:=toI gs) (by rw[fR];exact h gs rfl);refine ⟨x0,x1,x2,x3,x4,x5,x6,x7,true,?_⟩;show Value.tuple #[.agg ((toI gs).map (Value.int .i64)).toArray,F true]=_;rw[hx];rfl
def eS(D:Nat)(w:World)(ao:Option Addr)(len:Nat):Prop:=
 len=0∨ ∃b off,ao=some ⟨b,off,none⟩/\b<D/\ ∀j,j<len-> ∃x:Int,w.cell? ⟨b,off+j,none⟩=some (.int .u8 x)/\0<=x/\x<=255
def Cur(D B:Nat)(ao:Option Addr)(len cap:Nat)(w:World):Prop:=
 ∃i h:Int,w.heap[B]? =some (Z #[.slice ao len cap,I J i,I J h] 93 (0,0))/\0<=i/\i<=len/\len<=1048576/\D<=B/\eS D w ao len
theorem qQ(n:Int):bits .and .i64 n 255=n%256:=by
 have h255:(BitVec.ofInt 64 255).toNat=2^8-1:=de;have key:(BitVec.ofInt 64 n&&&BitVec.ofInt 64 255).toNat=(n%((2^64:Nat):Int)).toNat%2^8:=by
  rw[BitVec.toNat_and,BitVec.toNat_ofInt,h255,Nat.and_two_pow_sub_one_eq_mod]
 show IntKind.i64.wrap ((BitVec.ofInt 64 n&&&BitVec.ofInt 64 255).toNat:Nat)=n%256;rw[key,IntKind.wrap_i64];omega
theorem eS.grown{D:Nat}{w w':World}{ao:Option Addr}{len:Nat}(h:eS D w ao len)(hb: ∀k,k<D->w'.heap[k]? =w.heap[k]?):eS D w' ao len:=by
 rcases h with h|⟨b,off,h1,h2,h3⟩
 .exact .inl h
 refine .inr ⟨b,off,h1,h2,fun j hj=> ?_⟩;obtain ⟨x,h4,h5⟩:=h3 j hj;exact ⟨x,(zl (w:=w) (a:=⟨b,off+j,none⟩) (hb b h2)).trans h4,h5⟩
theorem JD{w:World}{B k:Nat}{cs:Array Value}{t:TypeId}(v:Value)(h:w.heap[B]? =some (.cells cs t (0,0))):(w.setCell ⟨B,k,none⟩ v).heap[B]? =some (.cells (cs.setIfInBounds k v) t (0,0)):=
 heap_setCell_same w B k cs t v h
theorem Cur.seth{D B:Nat}{ao:Option Addr}{len cap:Nat}{w:World}{i h:Int}(hc:w.heap[B]? =some (Z #[.slice ao len cap,I J i,I J h] 93 (0,0)))(h0:0<=i)(h1:i<=len)(hl:len<=1048576)(hDB:D<=B)(hcode:eS D w ao len)(h':Int):
  Cur D B ao len cap (w.setCell ⟨B,2,none⟩ (I J h'))/\w.grownBy (w.setCell ⟨B,2,none⟩ (I J h')) (some B):=by
 refine ⟨⟨i,h',?_,h0,h1,hl,hDB,hcode.grown fun k hk=>ze _ _ _ _ (by simp;omega)⟩,⟨rfl,rfl,rfl,by simp[World.setCell],fun k _ hk=>ze _ _ _ _ (fun e=>hk (by simp[e]))⟩⟩;rw[JD _ hc];rfl
theorem Cur.seti{D B:Nat}{ao:Option Addr}{len cap:Nat}{w:World}{i h:Int}(hc:w.heap[B]? =some (Z #[.slice ao len cap,I J i,I J h] 93 (0,0)))(hl:len<=1048576)(hDB:D<=B)(hcode:eS D w ao len)(i':Int)(h0:0<=i')(h1:i'<=len):
  Cur D B ao len cap (w.setCell ⟨B,1,none⟩ (I J i'))/\w.grownBy (w.setCell ⟨B,1,none⟩ (I J i')) (some B):=by
 refine ⟨⟨i',h,?_,h0,h1,hl,hDB,hcode.grown fun k hk=>ze _ _ _ _ (by simp;omega)⟩,⟨rfl,rfl,rfl,by simp[World.setCell],fun k _ hk=>ze _ _ _ _ (fun e=>hk (by simp[e]))⟩⟩;rw[JD _ hc];rfl
theorem yJ{w:World}{B:Nat}{a b c:Value}{t:TypeId}(h:w.heap[B]? =some (Z #[a,b,c] t (0,0))):
  w.cell? ⟨B,0,none⟩=some a/\w.cell? ⟨B,1,none⟩=some b/\w.cell? ⟨B,2,none⟩=some c/\ ∀j,w.frozen? ⟨B,j,none⟩=false:=by
 refine ⟨?_,?_,?_,fun j=>frozen_of_row w B j _ t h⟩<;>(rw[cell_of_row w B _ _ t (0,0) h];rfl)
theorem Cur.drewN{D B:Nat}{ao:Option Addr}{len cap:Nat}{w:World}(h:Cur D B ao len cap w)(n:Nat):Cur D B ao len cap (w.drewN n):=h
theorem DZ{w w':World}{row:Option Nat}(h:w.grownBy w' row)(n:Nat):w.grownBy (w'.drewN n) row:=⟨h.os,h.tape,h.output,h.size,h.block⟩
theorem MB(D B:Nat)(ao:Option Addr)(len cap:Nat)(w:World)(hcur:Cur D B ao len cap w):Calls prog 111 #[E (some ⟨B,0,none⟩)] w fun e w'=> ∃x:Int,0<=x/\x<=255/\e=Y (I J x)/\Cur D B ao len cap w'/\w.grownBy w' (some B):=by
 obtain ⟨i,h,hc,h0,h1,hl,hDB,hcode⟩:=hcur;obtain ⟨c0,c1,c2,cf⟩:=yJ hc;have f2:=cf 2;have HS:Hid (∀h',Cur D B ao len cap (w.setCell ⟨B,2,none⟩ (I J h'))/\w.grownBy (w.setCell ⟨B,2,none⟩ (I J h')) (some B)):=fun h'=>Cur.seth hc h0 h1 hl hDB hcode h'
 clear hc cf hcode hDB;go_enter func111,ntmps111
 go_upto_region 1 with fail
 go_cut [] (fun w1=>Cur D B ao len cap w1/\w.grownBy w1 (some B))
 case first=>
  go_wp2_with fail;go_meet
  case rel=>exact HS.out _
 clear HS c0 c1 c2 f2 h0 h1 hl
 go_upto_region 2 with fail
 go_cut [3] (fun v w1=> ∃x:Int,v=I J x/\0<=x/\x<=255/\Cur D B ao len cap w1/\w.grownBy w1 (some B))
 case first=>
  obtain ⟨hcu,hgr⟩:=hcut;have HU:Hid (Cur D B ao len cap wc):=hcu;obtain ⟨i',h',hc,h0,h1,hl,hDB,hcode⟩:=hcu;obtain ⟨c0,c1,c2,cf⟩:=yJ hc;clear hc hcode cf hDB
  go_quiet (fail)
  go_wp2_with fail;go_meet
  case rel=>
   refine ⟨_,rfl,?_,?_,HU.out.drewN _,DZ hgr _⟩
   .rw[qQ];omega
   rw[qQ];omega
 obtain ⟨x,rfl,hx0,hx1,hcu,hgr⟩:=hcut;have HU:Hid (Cur D B ao len cap wc):=hcu;obtain ⟨i',h',hc,h0,h1,hl,hDB,hcode⟩:=hcu;have HI:Hid (∀i'':Int,0<=i''->i''<=len->Cur D B ao len cap (wc.setCell ⟨B,1,none⟩ (I J i''))/\wc.grownBy (wc.setCell ⟨B,1,none⟩ (I J i'')) (some B)):=fun i'' a b=>Cur.seti hc hl hDB hcode i'' a b
 obtain ⟨c0,c1,c2,cf⟩:=yJ hc;have f1:=cf 1;clear hc cf hDB
 by_cases hlt:i'<(len:Int)
 .rcases hcode with hz|⟨b,off,rfl,hb,hcells⟩
  .omega
  obtain ⟨n,rfl⟩:=zf h0;obtain ⟨y,cy,hy0,hy1⟩:=hcells n om;clear hcells c2;go_wp2_with fail
  go_quiet (fail)
  go_wp2_with fail
  go_quiet (fail)
  go_wp2_with fail;go_ret;refine ⟨_,?_,?_,rfl,?_,?_⟩
  .rw[qQ];omega
  .rw[qQ];omega
  .exact (HI.out ((n:Int)+1) om om).1
  have g:=bB hgr (HI.out ((n:Int)+1) om om).2;exact ⟨g.os,g.tape,g.output,g.size,g.block⟩
 clear hcode c2 f1;go_wp2_with fail
 go_quiet (fail)
 go_wp2_with fail;go_ret;exact ⟨x,hx0,hx1,rfl,HU.out.drewN _,DZ hgr _⟩
theorem kM(n:Int)(D B:Nat)(ao:Option Addr)(len cap:Nat)(w:World)(hn:0<n)(hn1:n<=1099511627776)(hcur:Cur D B ao len cap w):Calls prog 50 #[E (some ⟨B,0,none⟩),I J n] w fun e w'=> ∃x:Int,0<=x/\x<n/\e=Y (I J x)/\Cur D B ao len cap w'/\w.grownBy w' (some B):=by
 have hz: ¬n<=0:=om;have hne:(n==0)=false:=by simp;omega
 have HC:Hid (Cur D B ao len cap w):=hcur;clear hcur
 by_cases h256:n<=256
 .go_enter func50,ntmps50
  go_wp2_with fail;refine (MB _ _ _ _ _ _ HC.out).mono ?_;rintro e wa ⟨x,hx0,hx1,rfl,ca,ga⟩;have CA:Hid (Cur D B ao len cap wa):=ca;clear ca;go_wp2_with fail;go_ret;refine ⟨_,?_,?_,rfl,CA.out,ga⟩
  .first|exact Int.emod_nonneg _ om|omega
  first|exact zp _ hn|omega
 go_enter func50,ntmps50;go_wp2_with fail;refine (MB _ _ _ _ _ _ HC.out).mono ?_;rintro e wa ⟨x,hx0,hx1,rfl,ca,ga⟩;have CA:Hid (Cur D B ao len cap wa):=ca;clear ca;go_wp2_with fail;refine (MB _ _ _ _ _ _ CA.out).mono ?_;rintro e wb ⟨y,hy0,hy1,rfl,cb,gb⟩;have CB:Hid (Cur D B ao len cap wb):=cb;clear cb;go_wp2_with fail;refine (MB _ _ _ _ _ _ CB.out).mono ?_;rintro e wc ⟨z,hz0,hz1,rfl,cc,gc⟩;have CC:Hid (Cur D B ao len cap wc):=cc;clear cc;go_wp2_with fail;go_ret;refine ⟨_,?_,?_,rfl,CC.out,bB (bB ga gb) gc⟩
 .first|exact Int.emod_nonneg _ om|omega
 first|exact zp _ hn|omega
theorem T4(n:Int)(D B:Nat)(ao:Option Addr)(len cap:Nat)(w:World)(hn:0<n)(hn1:n<=1099511627776)(hcur:Cur D B ao len cap w):Calls prog 49 #[E (some ⟨B,0,none⟩),I J n] w fun e w'=> ∃b:Bool,e=Y (F b)/\Cur D B ao len cap w'/\w.grownBy w' (some B):=by
 have HC:Hid (Cur D B ao len cap w):=hcur;clear hcur;go_enter func49,ntmps49;go_wp2_with fail;refine (kM n _ _ _ _ _ _ hn hn1 HC.out).mono ?_;rintro e wa ⟨x,hx0,hx1,rfl,ca,ga⟩;have CA:Hid (Cur D B ao len cap wa):=ca;clear ca;go_wp2_with fail;go_ret;exact ⟨_,rfl,CA.out,ga⟩
theorem T5(m g cp G:Nat)(zs:List Int)(D B:Nat)(ao:Option Addr)(len cap:Nat)(w:World)(hm:0<m)(hm1:m<=1099511627776)(hcur:Cur D B ao len cap w)
  (hown:w.ownsRow G 3 1 (.slice (some ⟨g,0,none⟩) m cp) m (aL zs)) (hgB:g≠B):Calls prog 77 #[E (some ⟨B,0,none⟩),.slice (some ⟨g,0,none⟩) m cp] w fun e w'=> ∃z:Int,z∈zs/\e=Y (I J z)/\Cur D B ao len cap w'/\w.grownBy w' (some B):=by
 have HC:Hid (Cur D B ao len cap w):=hcur;clear hcur;go_enter func77,ntmps77;go_wp2_with fail;refine (kM (m:Int) _ _ _ _ _ _ om om HC.out).mono ?_;rintro e wa ⟨x,hx0,hx1,rfl,ca,ga⟩;have CA:Hid (Cur D B ao len cap wa):=ca;have oa:wa.ownsRow G 3 1 (.slice (some ⟨g,0,none⟩) m cp) m (aL zs):=hown.kept ga (by simp[Value.ownBlock,hgB]);obtain ⟨k,rfl⟩:=zf hx0;have cc:=oX oa k om;have hl:zs.length=m:=by have:=hown.1;simpa[aL] using this
 have HM:Hid (zs.getD k 0∈zs):=by
  show _∈_;rw[zd,zi om];exact zu _
 clear ca oa hown hl;generalize zs.getD k 0=z at*;go_wp2_with fail;go_ret;exact ⟨z,HM.out,rfl,CA.out,ga⟩
theorem l1Str(m g cp G:Nat)(fs:List ByteArray)(D B:Nat)(ao:Option Addr)(len cap:Nat)(w:World)(hm:0<m)(hm1:m<=1099511627776)(hcur:Cur D B ao len cap w)
  (hown:w.ownsRow G 9 1 (.slice (some ⟨g,0,none⟩) m cp) m (aM fs)) (hgB:g≠B):Calls prog 78 #[E (some ⟨B,0,none⟩),.slice (some ⟨g,0,none⟩) m cp] w fun e w'=> ∃z:ByteArray,z∈fs/\e=Y (L z)/\Cur D B ao len cap w'/\w.grownBy w' (some B):=by
 have HC:Hid (Cur D B ao len cap w):=hcur;clear hcur;go_enter func78,ntmps78;go_wp2_with fail;refine (kM (m:Int) _ _ _ _ _ _ om om HC.out).mono ?_;rintro e wa ⟨x,hx0,hx1,rfl,ca,ga⟩;have CA:Hid (Cur D B ao len cap wa):=ca;have oa:wa.ownsRow G 9 1 (.slice (some ⟨g,0,none⟩) m cp) m (aM fs):=hown.kept ga (by simp[Value.ownBlock,hgB]);obtain ⟨k,rfl⟩:=zf hx0;have cc:=bY oa k om;have hl:fs.length=m:=by have:=hown.1;simpa[aM] using this
 have HM:Hid (fs.getD k zx∈fs):=by
  show _∈_;rw[zd,zi om];exact zu _
 clear ca oa hown hl;generalize fs.getD k zx=z at*;go_wp2_with fail;go_ret;exact ⟨z,HM.out,rfl,CA.out,ga⟩
theorem l1New(ao:Option Addr)(len cap:Nat)(w:World)(hl:len<=1048576)(hcode:eS w.heap.size w ao len):Calls prog 30 #[.slice ao len cap] w fun e w'=> ∃B:Nat,e=Y (E (some ⟨B,0,none⟩))/\w.heap.size<=B/\Cur w.heap.size B ao len cap w'/\Below w.heap.size w w':=by
 have HC:Hid (∀h:Int,Cur w.heap.size w.heap.size ao len cap (w.alloc (Z #[.slice ao len cap,I J 0,I J h] 93))):=fun h=>
  ⟨0,h,heap_alloc_new w _,om,om,hl,za _,hcode.grown fun k hk=>zv w _ k hk⟩
 have HD:Hid (eS w.heap.size w ao len):=hcode;clear hcode;go_enter func30,ntmps30;go_wp2
 go_loop[3,4] (fun a i=> ∃(k:Nat) (h:Int),k<=len/\i=I J k/\a=I J h) (fun _ i=>len-(intOf i).toNat)
 case atStart=>exact ⟨0,_,zm _,rfl,rfl⟩
 obtain ⟨k,h,hk,rfl,rfl⟩:=hrel
 by_cases hlt:k<len
 .by_cases h4:(k:Int)<4000
  .rcases HD.out with hz|⟨b,off,rfl,hb,hcells⟩
   .omega
   obtain ⟨y,cy,hy0,hy1⟩:=hcells k hlt;clear hcells;go_wp2;go_round
   case rel=>exact ⟨k+1,_,om,gn,rfl⟩
   case measure=>exact j1
  go_wp2;go_ret;exact ⟨w.heap.size,rfl,za _,HC.out h,(zc _ _).alloc (za _) _⟩
 go_wp2;go_ret;exact ⟨w.heap.size,rfl,za _,HC.out h,(zc _ _).alloc (za _) _⟩
def UP(M:Nat)(xs:List Value):Bool:=xs.all fun| L z=>decide (z.size<=M)|_=>false
theorem tI{M:Nat}: ∀{xs:List Value},UP M xs=true-> ∃fs:List ByteArray,xs=aM fs/\ ∀z∈fs,z.size<=M
 |[],_=>⟨[],rfl,fun z h=>by simp at h⟩
 |u::xs,h=>by
  simp only[UP,List.all_cons,zj]at h;obtain ⟨h1,h2⟩:=h;obtain ⟨fs,rfl,hf⟩:=tI (xs:=xs) h2
  cases u with
  |string z=>exact ⟨z::fs,rfl,fun y hy=>by rcases zo.1 hy with rfl|hy;exact of_decide_eq_true h1;exact hf y hy⟩
  |_=>simp at h1
theorem UQ(M m g cp G:Nat)(xs:List Value)(D B:Nat)(ao:Option Addr)(len cap:Nat)(w:World)(hm:0<m)(hm1:m<=1099511627776)(hcur:Cur D B ao len cap w)
  (hown:w.ownsRow G 9 1 (.slice (some ⟨g,0,none⟩) m cp) m xs) (hgB:g≠B) (hx:UP M xs=true):Calls prog 78 #[E (some ⟨B,0,none⟩),.slice (some ⟨g,0,none⟩) m cp] w fun e w'=> ∃z:ByteArray,z.size<=M/\e=Y (L z)/\Cur D B ao len cap w'/\w.grownBy w' (some B):=by
 obtain ⟨fs,rfl,hf⟩:=tI hx;refine (l1Str m g cp G fs D B ao len cap w hm hm1 hcur hown hgB).mono ?_;rintro e w' ⟨z,hz,he,hc,hg⟩;exact ⟨z,hf z hz,he,hc,hg⟩
theorem Cur.lt{D B:Nat}{ao:Option Addr}{len cap:Nat}{w:World}(h:Cur D B ao len cap w):B<w.heap.size:=by
 obtain ⟨i,h',hc,_⟩:=h;exact (Array.getElem?_eq_some_iff.1 hc).1
theorem Cur.keep{D B:Nat}{ao:Option Addr}{len cap:Nat}{w w':World}(h:Cur D B ao len cap w)(hB:w'.heap[B]? =w.heap[B]?)(hD: ∀k,k<D->w'.heap[k]? =w.heap[k]?):Cur D B ao len cap w':=by
 obtain ⟨i,h',hc,h0,h1,hl,hDB,hcode⟩:=h;exact ⟨i,h',hB.trans hc,h0,h1,hl,hDB,hcode.grown hD⟩
theorem Cur.le{D B:Nat}{ao:Option Addr}{len cap:Nat}{w:World}(h:Cur D B ao len cap w):D<=B:=by
 obtain ⟨i,h',hc,h0,h1,hl,hDB,hcode⟩:=h;exact hDB
theorem Cur.below{D B:Nat}{ao:Option Addr}{len cap:Nat}{w w':World}(h:Cur D B ao len cap w)(hb: ∀k,k<w.heap.size->w'.heap[k]? =w.heap[k]?):Cur D B ao len cap w':=by
 have hlt:=h.lt;have hle:=h.le;exact h.keep (hb B hlt) fun k hk=>hb k om
theorem Cur.alloc{D B:Nat}{ao:Option Addr}{len cap:Nat}{w:World}(h:Cur D B ao len cap w)(o:Obj):Cur D B ao len cap (w.alloc o):=h.below fun k hk=>zv w o k hk
theorem gJ{w w1:World}{row:Option Nat}(h:w.grownBy w1 row)(o:Obj):w.grownBy (w1.alloc o) row:=bB h (zn w1 o row)
theorem Gv(ao:Option Addr)(len cap:Nat)(w:World)(h:(len:Int)<=1048576):Calls prog 10 #[.slice ao len cap] w fun e w'=>e=Y (F false)/\w=w':=by
 go_enter func10,ntmps10;go_wp2;go_ret;exact ⟨aG (by simp<;>omega),rfl⟩
theorem Dj(ao:Option Addr)(len cap:Nat)(w:World)(h:1048576<(len:Int)):Calls prog 10 #[.slice ao len cap] w fun e w'=>e=Y (F true)/\w=w':=by
 go_enter func10,ntmps10;go_wp2;go_ret;exact ⟨aG (by simp<;>omega),rfl⟩
theorem eS.le{D D':Nat}{w:World}{ao:Option Addr}{len:Nat}(h:eS D w ao len)(hD:D<=D'):eS D' w ao len:=by
 rcases h with h|⟨b,off,h1,h2,h3⟩
 .exact .inl h
 exact .inr ⟨b,off,h1,om,h3⟩
theorem eS.later{w w':World}{ao:Option Addr}{len:Nat}(h:eS w.heap.size w ao len)(hb:Below w.heap.size w w'):eS w'.heap.size w' ao len:=
 (h.grown hb.block).le hb.size
theorem Gw(D B:Nat)(ao:Option Addr)(len cap:Nat)(w:World)(hcur:Cur D B ao len cap w):Calls prog 178 #[E (some ⟨B,0,none⟩)] w fun e w'=> ∃z:Int,0<=z/\z<4294967296/\e=Y (I J z)/\Cur D B ao len cap w'/\w.grownBy w' (some B):=by
 have HC:Hid (Cur D B ao len cap w):=hcur;clear hcur;go_enter func178,ntmps178;go_wp2_with fail;refine (kM 100000 _ _ _ _ _ _ om om HC.out).mono ?_;rintro e wa ⟨y,hy0,hy1,rfl,ca,ga⟩;have CA:Hid (Cur D B ao len cap wa):=ca;have hB:=ca.lt;clear ca;go_wp2_with fail;refine (T5 8 wa.heap.size 8 0 [0,1,2130706433,4294967295,256,65536,3232235777,y] _ _ _ _ _ _ om om (CA.out.alloc _) (zt wa _ 8 (zm _) de rfl) om).mono ?_;rintro e wc ⟨z,hz,rfl,cc,gc⟩;have CC:Hid (Cur D B ao len cap wc):=cc;have G:=bB (gJ ga _) gc;have hz2:0<=z/\z<4294967296:=by
  simp only[zo,zw,or_false]at hz;omega
 clear cc gc ga hz;obtain ⟨hz0,hz1⟩:=hz2;go_wp2_with fail;go_ret;exact ⟨z,hz0,hz1,rfl,CC.out,G⟩
def zL(z:List Int):Prop:=z.length=8/\ ∀x∈z,0<=x/\x<=65535
theorem dW.kept{w w':World}{B' B:Nat}{z:List Int}(h:dW w B' z)(g:w.grownBy w' (some B))(hne:B'≠B):dW w' B' z:=by
 have hlt:B'<w.heap.size:=World.block_lt_of_cell? w ⟨B',0,none⟩ (h.2 0 de).1;have e:w'.heap[B']? =w.heap[B']? :=g.block B' hlt (by simp[hne]);refine ⟨h.1,fun j hj=>⟨(zl (w:=w) (a:=⟨B',j,none⟩) e).trans (h.2 j hj).1,?_⟩⟩
 have:=(h.2 j hj).2
 unfold World.frozen? at this⊢;simp only[e];exact this
theorem cW{w wr:World}{row:Option Nat}(h:w.grownBy wr row){C k:Nat}(hC:w.heap.size<=C)(v:Value):w.grownBy (wr.setCell ⟨C,k,none⟩ v) row:=by
 have b:=(zc C wr).setCell (p:=⟨C,k,none⟩) (za _) v;exact ⟨b.os.trans h.os,b.tape.trans h.tape,b.output.trans h.output,Nat.le_trans h.size b.size,fun j hj hne=>(b.block j om).trans (h.block j hj hne)⟩
theorem Cur.set{D B:Nat}{ao:Option Addr}{len cap:Nat}{wr:World}(h:Cur D B ao len cap wr){C k:Nat}(hC:B<C)(v:Value):Cur D B ao len cap (wr.setCell ⟨C,k,none⟩ v):=by
 have b:=(zc C wr).setCell (p:=⟨C,k,none⟩) (za _) v;have hle:=h.le;exact h.keep (b.block B hC) fun j hj=>b.block j om
theorem QE{fn:Func}{p:Tmp}(h:fn.results= #[.cell p 24])(tmps:Array Value)(W:World)(B:Nat)(x0 x1 x2 x3 x4 x5 x6 x7:Int)
  (hp:tmps[p]?.getD undef=E (some ⟨B,0,none⟩)) (ha:dW W B [x0,x1,x2,x3,x4,x5,x6,x7]):
  (results fn tmps).run prog W=.ok (.agg #[I J x0,I J x1,I J x2,I J x3,I J x4,I J x5,I J x6,I J x7]) W:=by
 have c0:=(ha.2 0 de).1;have c1:=(ha.2 1 de).1;have c2:=(ha.2 2 de).1;have c3:=(ha.2 3 de).1;have c4:=(ha.2 4 de).1;have c5:=(ha.2 5 de).1;have c6:=(ha.2 6 de).1;have c7:=(ha.2 7 de).1;simp at c0 c1 c2 c3 c4 c5 c6 c7;simp[results,h,hp,asAddr,go_sem,c0,c1,c2,c3,c4,c5,c6,c7,Addr.add_lit]
theorem UR{w W:World}{row:Option Nat}(h:w.grownBy W row){B:Nat}(hB:w.heap.size<=B)(x0 x1 x2 x3 x4 x5 x6 x7:Int):w.grownBy ((((((((W.setCell ⟨B,0,none⟩ (I J x0)).setCell ⟨B,1,none⟩ (I J x1)).setCell ⟨B,2,none⟩ (I J x2)).setCell ⟨B,3,none⟩ (I J x3)).setCell ⟨B,4,none⟩ (I J x4)).setCell ⟨B,5,none⟩ (I J x5)).setCell ⟨B,6,none⟩ (I J x6)).setCell ⟨B,7,none⟩ (I J x7)) row:=
 cW (cW (cW (cW (cW (cW (cW (cW h hB _) hB _) hB _) hB _) hB _) hB _) hB _) hB _
theorem D6{D B:Nat}{ao:Option Addr}{len cap:Nat}{W:World}(h:Cur D B ao len cap W){C:Nat}(hC:B<C)(x0 x1 x2 x3 x4 x5 x6 x7:Int):Cur D B ao len cap ((((((((W.setCell ⟨C,0,none⟩ (I J x0)).setCell ⟨C,1,none⟩ (I J x1)).setCell ⟨C,2,none⟩ (I J x2)).setCell ⟨C,3,none⟩ (I J x3)).setCell ⟨C,4,none⟩ (I J x4)).setCell ⟨C,5,none⟩ (I J x5)).setCell ⟨C,6,none⟩ (I J x6)).setCell ⟨C,7,none⟩ (I J x7)):=
 (((((((h.set hC _).set hC _).set hC _).set hC _).set hC _).set hC _).set hC _).set hC _
theorem l5Six(D B:Nat)(ao:Option Addr)(len cap:Nat)(w:World)(hcur:Cur D B ao len cap w):Calls prog 179 #[E (some ⟨B,0,none⟩)] w fun e w'=> ∃x0 x1 x2 x3 x4 x5 x6 x7:Int,zL [x0,x1,x2,x3,x4,x5,x6,x7]/\e=Y (.agg #[I J x0,I J x1,I J x2,I J x3,I J x4,I J x5,I J x6,I J x7])/\Cur D B ao len cap w'/\w.grownBy w' (some B):=by
 have HC:Hid (Cur D B ao len cap w):=hcur;have hB:=hcur.lt;clear hcur;have AR:=bN ((sW w).later ((zc _ _).alloc (za _) (Z #[I J 0,I J 0,I J 0,I J 0,I J 0,I J 0,I J 0,I J 0] 24)));have AO:Hid (dW ((w.alloc (Z #[I J 0,I J 0,I J 0,I J 0,I J 0,I J 0,I J 0,I J 0] 24)).alloc (Z #[I J 0,I J 0,I J 0,I J 0,I J 0,I J 0,I J 0,I J 0] 24)) (w.heap.size+1) [0,0,0,0,0,0,0,0]):=by
  have h:=sW (w.alloc (Z #[I J 0,I J 0,I J 0,I J 0,I J 0,I J 0,I J 0,I J 0] 24));rw[show (w.alloc (Z #[I J 0,I J 0,I J 0,I J 0,I J 0,I J 0,I J 0,I J 0] 24)).heap.size=w.heap.size+1 by simp]at h;exact h
 have G0:Hid (w.grownBy ((w.alloc (Z #[I J 0,I J 0,I J 0,I J 0,I J 0,I J 0,I J 0,I J 0] 24)).alloc (Z #[I J 0,I J 0,I J 0,I J 0,I J 0,I J 0,I J 0,I J 0] 24)) (some B)):=gJ (zn w _ (some B)) _;have C0:Hid (Cur D B ao len cap ((w.alloc (Z #[I J 0,I J 0,I J 0,I J 0,I J 0,I J 0,I J 0,I J 0] 24)).alloc (Z #[I J 0,I J 0,I J 0,I J 0,I J 0,I J 0,I J 0,I J 0] 24))):=(HC.out.alloc _).alloc _;go_enter func179,ntmps179;go_wp2_with fail
 go_loopw[4] (fun i wr=> ∃(k:Nat) (z:List Int),k<=8/\i=I J k/\dW wr (w.heap.size+1) z/\dW wr w.heap.size [0,0,0,0,0,0,0,0]/\(∀x∈z,0<=x/\x<=65535)/\Cur D B ao len cap wr/\w.grownBy wr (some B)) (fun i _=>8-(intOf i).toNat)
 case atStart=>exact ⟨0,_,zm _,rfl,AO.out,AR.out,de,C0.out,G0.out⟩
 obtain ⟨k,z,hk,rfl,oa,ra,hz,cc,gg⟩:=hrel;have HOW:=bN oa;have HRW:=bN ra;have HZ:Hid (∀x∈z,0<=x/\x<=65535):=hz;have HCC:Hid (Cur D B ao len cap wr):=cc;have HGG:Hid (w.grownBy wr (some B)):=gg;clear oa ra hz cc gg AR AO G0 C0
 by_cases hlt:k<8
 .have hki:(k:Int)<8:=om
  go_wp2_with fail;refine (kM 65536 _ _ _ _ _ _ om om HCC.out).mono ?_;rintro e wa ⟨y,hy0,hy1,rfl,ca,ga⟩;have CA:Hid (Cur D B ao len cap wa):=ca;have hBa:=ca.lt;have oa2:=bN (HOW.out.kept ga om);have ra2:=bN (HRW.out.kept ga om);have G2:Hid (w.grownBy wa (some B)):=bB HGG.out ga;clear ca ga HOW HRW HCC HGG;go_wp2_with fail;refine (T5 8 wa.heap.size 8 0 [0,0,0,1,255,4096,65535,y] _ _ _ _ _ _ om om (CA.out.alloc _) (zt wa _ 8 (zm _) de rfl) om).mono ?_;rintro e wc ⟨x,hx,rfl,cc,gc⟩;have hx2:0<=x/\x<=65535:=by
   simp only[zo,zw,or_false]at hx;omega
  have CC:Hid (Cur D B ao len cap wc):=cc;have oa3:=bN ((oa2.out.later ((zc _ _).alloc (za _) _)).kept gc om);have ra3:=bN ((ra2.out.later ((zc _ _).alloc (za _) _)).kept gc om);have G3:Hid (w.grownBy wc (some B)):=bB (gJ G2.out _) gc;have ho:=(oa3.out.2 k hlt).1;have hof:=(oa3.out.2 k hlt).2;have HX:Hid (0<=x/\x<=65535):=hx2;clear cc gc hx hx2 oa2 ra2 G2 CA;generalize z.getD k 0=y0 at ho;go_wp2_with fail;go_roundw
  case rel=>
   refine ⟨k+1,z.set k x,om,gn,oa3.out.set k hlt x,ra3.out.other om _ _,?_,CC.out.set om _,cW G3.out om _⟩;intro u hu
   rcases List.mem_or_eq_of_mem_set hu with h|h
   .exact HZ.out u h
   rw[h];exact HX.out
  case measure=>exact j1
 have hki: ¬(k:Int)<8:=om;have OA8:=HOW.out;have HZ2:=HZ.out;obtain ⟨x0,x1,x2,x3,x4,x5,x6,x7,rfl⟩:=DY OA8;have HS:Hid (zL [x0,x1,x2,x3,x4,x5,x6,x7]):=⟨rfl,HZ2⟩;clear HZ2 HZ HOW;have o0:=(OA8.2 0 de).1;have o1:=(OA8.2 1 de).1;have o2:=(OA8.2 2 de).1;have o3:=(OA8.2 3 de).1;have o4:=(OA8.2 4 de).1;have o5:=(OA8.2 5 de).1;have o6:=(OA8.2 6 de).1;have o7:=(OA8.2 7 de).1;clear OA8;simp only[zd,List.getElem?_cons_zero,List.getElem?_cons_succ,Option.getD_some]at o0 o1 o2 o3 o4 o5 o6 o7;have RA:=HRW.out;have r0:=(RA.2 0 de).1;have r1:=(RA.2 1 de).1;have r2:=(RA.2 2 de).1;have r3:=(RA.2 3 de).1;have r4:=(RA.2 4 de).1;have r5:=(RA.2 5 de).1;have r6:=(RA.2 6 de).1;have r7:=(RA.2 7 de).1;have f0:=(RA.2 0 de).2;have f1:=(RA.2 1 de).2;have f2:=(RA.2 2 de).2;have f3:=(RA.2 3 de).2;have f4:=(RA.2 4 de).2;have f5:=(RA.2 5 de).2;have f6:=(RA.2 6 de).2;have f7:=(RA.2 7 de).2;have HRA:=bN RA;clear RA;go_wp2_with fail;refine bodyPost_ret (QE rfl _ _ w.heap.size x0 x1 x2 x3 x4 x5 x6 x7 rfl (cR HRA.out x0 x1 x2 x3 x4 x5 x6 x7)) rfl ⟨x0,x1,x2,x3,x4,x5,x6,x7,HS.out,rfl,D6 HCC.out om x0 x1 x2 x3 x4 x5 x6 x7,UR HGG.out (za _) x0 x1 x2 x3 x4 x5 x6 x7⟩
theorem D7(n:Int):(gP n).size<=100:=by
 unfold gP;show (hF n.toNat).toArray.size<=100;rw[zh];unfold hF;have h1:=eZ (n.toNat/16777216);have h2:=eZ (n.toNat/65536%256);have h3:=eZ (n.toNat/256%256);have h4:=eZ (n.toNat%256);simp;omega
theorem XO{z:List Int}(h:zL z): ∀g∈z.map zy,g<65536:=by
 intro g hg;obtain ⟨x,hx,rfl⟩:=zr.1 hg
 have:=h.2 x hx
 omega
theorem Gx{z:List Int}(h:zL z):okG z=true:=AT h.2
theorem T6{x0 x1 x2 x3 x4 x5 x6 x7:Int}(h:zL [x0,x1,x2,x3,x4,x5,x6,x7]):dQ (lC [x0,x1,x2,x3,x4,x5,x6,x7])=some ([x0,x1,x2,x3,x4,x5,x6,x7].map zy):=by
 unfold lC;rw[if_pos (Gx h)];have hr:=UJ x0 x1 x2 x3 x4 x5 x6 x7;have hle:=UK hr;unfold DC at hr;have hz: ∀i,i<8->(zb [x0,x1,x2,x3,x4,x5,x6,x7]).getD i false=true->([x0,x1,x2,x3,x4,x5,x6,x7].map zy).getD i 0=0:=by
  intro i hi hb;have h8:i=0∨i=1∨i=2∨i=3∨i=4∨i=5∨i=6∨i=7:=om
  rcases h8 with rfl|rfl|rfl|rfl|rfl|rfl|rfl|rfl<;>simp[zb]at hb⊢ <;>omega
 generalize jX 0 (0,0,0) (zb [x0,x1,x2,x3,x4,x5,x6,x7])=p at hr hle⊢;simp only[zj,decide_eq_true_eq]at hr
 by_cases c:p.2.1-p.1<2
 .unfold AB
  rw[if_pos c];exact XB rfl (XO h)
 have h3:=hr.2;rw[if_neg c]at h3;simp only[zj,decide_eq_true_eq,List.all_eq_true,List.mem_range,Bool.or_eq_true,Bool.not_eq_true',Bool.and_eq_false_iff,decide_eq_false_iff_not]at h3;refine ZP rfl (XO h) hle.2 ?_;intro i h1 h2;refine hz i om ?_
 rcases h3.2 i om with h4|h4
 .omega
 exact h4
