/- UrlImpl3, ResErr, LaidRes, RelPlain, HostSpec3. -/
import Derived.Test.YtgcbaphbiaimoaaGreatDoorQF29
import Derived.Test.YtgcbaphbiaimoaaGreatDoorQF30
import Derived.Deep.CutBlock
import Derived.Stop.LaidTwo
set_option maxHeartbeats 8000000
set_option maxRecDepth 100000
namespace Go.Proofs.YtgcbaphbiaimoaaGreatDoor
open _root_.Array renaming getElem?_eq_some_iff->zf
open _root_.Go.RowKit.Below renaming refl->zm
open _root_.List renaming drop_of_length_le->zi,foldl_cons->zj,length_cons->zp,length_drop->zo,mem_cons_of_mem->zl,mem_cons_self->zn,nodup_cons->zr,not_mem_nil->zq,sublist_append_right->zg,takeWhile_prefix->zk,take_of_length_le->zh
open _root_.Nat renaming le_refl->za
open _root_.Option renaming map_eq_some_iff->ze,some->zd
open _root_.Go.World renaming var?_cell->zc
open _root_.Go.Proofs.Tryz
open _root_.Go.Proofs.YtgcbaphbiaimoaaGreatDoor.Tryz
section
open Go.RowKit
attribute [local go_sem↓] Go.wp_at_zero Go.wp_at_succ
theorem WD(c:UInt8):([47,92,63]:List UInt8).contains c= !dJ c:=by
 have key: ∀n:Nat,n<256->([47,92,63]:List UInt8).contains (UInt8.ofNat n)= !dJ (UInt8.ofNat n):=by decide+kernel
 have h:=key c.toNat c.toNat_lt;simpa using h
theorem yZ(s:ByteArray)(w:World)(hs:s.size<=1048576):Calls prog 100 #[.string s] w fun e w'=>e=.returned (.tuple #[.string ⟨(s.data.toList.takeWhile dJ).toArray⟩,.string ⟨(s.data.toList.dropWhile dJ).toArray⟩])/\Below w.heap.size w w':=by
 have hsl:s.data.toList.length=s.size:=by simp
 have CA:Hid (CB 149 #[.string s,.string ⟨#[47,92,63]⟩] w (.int .i64 (Lib.indexAny s.data.toList [47,92,63]))):=Em s w hs;have hx:=JI [47,92,63] dJ WD s.data.toList;obtain ⟨k,hk,hz,ht,hd⟩: ∃k:Nat,k<=s.size/\(Lib.indexAny s.data.toList [47,92,63]=(k:Int)∨(Lib.indexAny s.data.toList [47,92,63]= -1/\k=s.size))/\s.extract 0 k=⟨(s.data.toList.takeWhile dJ).toArray⟩/\s.extract k s.size=⟨(s.data.toList.dropWhile dJ).toArray⟩:=by
  have hle:(s.data.toList.takeWhile dJ).length<=s.size:=by rw[<-hsl];exact (zk _).length_le
  obtain ⟨h1,h2⟩:=UX dJ s.data.toList
  cases ha:s.data.toList.all dJ with
  |true=>
   obtain ⟨h3,h4⟩:=JJ dJ _ ha;refine ⟨s.size,za _,.inr ⟨by rw[hx,ha];rfl,rfl⟩,?_,?_⟩
   .apply bX
    show (s.extract 0 s.size).data.toList=_;rw[mM,h3,zh om];rfl
   apply bX;show (s.extract s.size s.size).data.toList=_;rw[iL,h4,zi om];rfl
  |false=>
   refine ⟨(s.data.toList.takeWhile dJ).length,hle,.inl (by rw[hx,ha];rfl),?_,?_⟩
   .apply bX
    show (s.extract 0 _).data.toList=_;rw[mM,h1];rfl
   apply bX;show (s.extract _ s.size).data.toList=_;rw[iL,h2];rfl
 clear hx;have HT:Hid (s.extract 0 k=⟨(s.data.toList.takeWhile dJ).toArray⟩):=ht;have HD:Hid (s.extract k s.size=⟨(s.data.toList.dropWhile dJ).toArray⟩):=hd;generalize (⟨(s.data.toList.takeWhile dJ).toArray⟩:ByteArray)=X at HT⊢;generalize (⟨(s.data.toList.dropWhile dJ).toArray⟩:ByteArray)=Y at HD⊢;generalize Lib.indexAny s.data.toList [47,92,63]=z at CA hz;clear ht hd hsl;have hki:(k:Int)<=(s.size:Int):=om;have hk0:(0:Int)<=(k:Int):=Int.natCast_nonneg _
 rcases hz with rfl|⟨rfl,hks⟩
 .go_enter func100,ntmps100
  go_wp2_with fail;refine CA.out.mono ?_;rintro e wa ⟨rfl,ba⟩;go_wp2_with fail
  go_quiet (fail)
  go_wp2;go_ret2;exact ⟨by rw[<-HT.out,<-HD.out];rfl,ba.trans ⟨rfl,rfl,rfl,za _,fun _ _=>rfl⟩⟩
 subst hks;have HX:Hid (s.extract 0 s.size=s):=by
  apply bX;show (s.extract 0 s.size).data.toList=_;rw[mM,zh j2];rfl
 have HY:Hid (s.extract s.size s.size=ByteArray.empty):=by
  apply bX;show (s.extract s.size s.size).data.toList=_;rw[iL,zi j2];rfl
 go_enter func100,ntmps100;go_wp2_with fail;refine CA.out.mono ?_;rintro e wa ⟨rfl,ba⟩;go_wp2_with fail
 go_quiet (fail)
 go_wp2;go_ret2;exact ⟨by rw[<-HT.out,<-HD.out,HX.out,HY.out];rfl,ba.trans ⟨rfl,rfl,rfl,za _,fun _ _=>rfl⟩⟩
def uA:HV:=⟨0,⟨#[]⟩,0,jF⟩
def jQ(s:Int)(A:ByteArray):Int×HV×Int:=if A.data.toList.contains 64=true then (3,uA,0)
 else if 1<=eP s (poB A)/\eP s (poB A)<=65535 then (if rC (aO ⟨(hoB A).toArray⟩)=0 then (0,rV (aO ⟨(hoB A).toArray⟩),eP s (poB A))else (4,uA,0))else (5,uA,0)
def WE(c:Int):Value:=if c=0 then .nilIface else noV c
theorem YX{c:Int}(h:c≠0):WE c=.iface 69 (.agg #[.int .i64 c]):=by unfold WE;rw[if_neg h];rfl
theorem Et{s:Int}(hs:s=1∨s=2)(A:ByteArray)(rest:List UInt8):zN s A.data.toList rest=if (jQ s A).1=0 then MI (oE s (jQ s A).2.1 (jQ s A).2.2 rest)else ((jQ s A).1,fJ):=by
 unfold zN jQ
 by_cases h1:A.data.toList.contains 64=true
 .rw[if_pos h1,if_pos h1];rfl
 rw[if_neg h1,if_neg h1,Du hs]
 by_cases h2:1<=eP s (poB A)/\eP s (poB A)<=65535
 .rw[if_pos h2,if_pos h2]
  unfold tK
  by_cases h3:rC (aO ⟨(hoB A).toArray⟩)=0
  .rw[if_pos h3,if_pos h3];rfl
  rw[if_neg h3,if_neg h3];rfl
 rw[if_neg h2,if_neg h2];rfl
theorem Hq{s:Int}{A:ByteArray}(h:(jQ s A).1=0):hOk (jQ s A).2.1=true/\1<=(jQ s A).2.2/\(jQ s A).2.2<=65535:=by
 unfold jQ at h⊢
 by_cases h1:A.data.toList.contains 64=true
 .rw[if_pos h1]at h;exact absurd h de
 rw[if_neg h1]at h⊢
 by_cases h2:1<=eP s (poB A)/\eP s (poB A)<=65535
 .rw[if_pos h2]at h⊢
  by_cases h3:rC (aO ⟨(hoB A).toArray⟩)=0
  .rw[if_pos h3]
   refine ⟨?_,h2⟩
   rcases MD ⟨(hoB A).toArray⟩with ⟨c,h4,h5,_⟩|⟨h4,_⟩
   .rw[h4]at h3
    have:c=0:=h3
    omega
   exact h4
  rw[if_neg h3]at h;exact absurd h de
 rw[if_neg h2]at h;exact absurd h de
theorem H7(s:Int)(A:ByteArray):(jQ s A).2.1.z.length=8:=by
 unfold jQ;split
 .rfl
 split
 .split
  .exact iT _
  rfl
 rfl
theorem I0(s:Int)(A:ByteArray): ∃(k n:Int) (nm:ByteArray) (x0 x1 x2 x3 x4 x5 x6 x7:Int),(jQ s A).2.1=⟨k,nm,n,[x0,x1,x2,x3,x4,x5,x6,x7]⟩:=by
 have h8:=H7 s A;generalize (jQ s A).2.1=h at h8;obtain ⟨k,nm,n,z⟩:=h
 match z,h8 with
 |[x0,x1,x2,x3,x4,x5,x6,x7],_=>exact ⟨k,n,nm,x0,x1,x2,x3,x4,x5,x6,x7,rfl⟩
theorem Hr(A:ByteArray):(hoB A).length<=A.size:=by
 have hA:A.data.toList.length=A.size:=by simp
 obtain ⟨hf,_⟩:=Gb A;have h:=(zk (fun x=>x !=58) (l:=A.data.toList.drop (frB A))).length_le;rw[zo]at h;unfold hoB upB;rw[List.length_append,List.length_take];omega
theorem PU.moved{w:World}{row:List Value}{W W':World}{C:Nat}(h:PU w row W)(hC:w.heap.size<C)(hM:nN C W W'):PU w row W':=⟨hM.1 _ _ om h.1,hM.2 _ _ om h.2⟩
theorem mG{fn:Func}{i j l:Tmp}(h:fn.results= #[.cell i 26,.tmp j,.tmp l])(tmps:Array Value)(W:World)(B:Nat)(v1 v2:Value)(vs:List Value)(hl:vs.length=11)
  (hp:tmps[i]?.getD undef=.pointer (some ⟨B,0,none⟩)) (hq:tmps[j]?.getD undef=v1) (hr:tmps[l]?.getD undef=v2) (ha:UAt W B vs):(results fn tmps).run prog W=.ok (.tuple #[.agg vs.toArray,v1,v2]) W:=by
 obtain ⟨d,hd1,hd2⟩:=rowHost;have hrun:=run_loadVar_mid (P:=prog) W B 0 26 vs d (ha.range 0 vs (fun j v hv=>by rw[Nat.zero_add];exact hv)) hd1 hd2 (by rw[hl];exact infoHost);simp[results,h,hp,hq,hr,asAddr,hrun]
def zX:List Value:=dU 0 ⟨#[]⟩ 0 0 0 0 0 0 0 0 0
theorem xJ(A:ByteArray)(s:Int)(w:World)(hA:A.size<=100000)(hs:s=1∨s=2)(hT:Lib.Utf8Tabs 12 13 w)(hP:Pow w)(hD:bK w)(hM:qE w):Calls prog 101 #[.string A,.int .i64 s] w fun e w'=>e=.returned (.tuple #[fB (jQ s A).2.1,.int .i64 (jQ s A).2.2,WE (jQ s A).1])/\Below w.heap.size w w':=by
 have CC:Hid (∀W,CS 150 #[.string A,.string ⟨#[64]⟩] W (.bool (A.data.toList.contains 64))):=fun W=>by
  have h:=strings_Contains_one A 64 W;rw[<-Lib.contains_iff_indexByte]at h;exact h.mono fun e w' h=>⟨h.1,h.2.symm⟩
 have HR:Hid (jQ s A=if A.data.toList.contains 64=true then (3,uA,0)else if 1<=eP s (poB A)/\eP s (poB A)<=65535 then (if rC (aO ⟨(hoB A).toArray⟩)=0 then (0,rV (aO ⟨(hoB A).toArray⟩),eP s (poB A))else (4,uA,0))else (5,uA,0)):=rfl;have CK:Hid (∀W,Below w.heap.size w W->CB 151 #[.string A] W (.tuple #[.string ⟨(hoB A).toArray⟩,.string ⟨(poB A).toArray⟩])):=fun W hb=>RI A W om (iM hM hb)
 have CR:Hid (∀W,CS 152 #[.string ⟨(poB A).toArray⟩,.int .i64 s] W (if 1<=eP s (poB A)/\eP s (poB A)<=65535 then .tuple #[.int .i64 (eP s (poB A)),.nilIface]else .tuple #[.int .i64 0,.iface 69 (.agg #[.int .i64 5])])):=fun W=>MO ⟨(poB A).toArray⟩ s W hs
 have hho:(⟨(hoB A).toArray⟩:ByteArray).size<=100000:=by rw[dO];have:=Hr A;omega
 have CH:Hid (∀W,Below w.heap.size w W->CB 153 #[.string ⟨(hoB A).toArray⟩] W (.tuple #[fB (rV (aO ⟨(hoB A).toArray⟩)),.int .i64 (rC (aO ⟨(hoB A).toArray⟩))])):=fun W hb=>GL _ W om (bW hT hb) (cN hP hb) (aT hD hb) (iM hM hb)
 generalize jQ s A=R at HR⊢;generalize (⟨(hoB A).toArray⟩:ByteArray)=Ho at HR CK CH hho;generalize eP s (poB A)=pn at HR CR;generalize (⟨(poB A).toArray⟩:ByteArray)=Po at CK CR;generalize A.data.toList.contains 64=b at CC HR;clear hT hP hD hM;obtain ⟨O,hO⟩: ∃O,O=w.alloc (.cells #[.int .i64 0,.string ⟨#[]⟩,.int .i64 0,.int .i64 0,.int .i64 0,.int .i64 0,.int .i64 0,.int .i64 0,.int .i64 0,.int .i64 0,.int .i64 0] 26):=⟨_,rfl⟩;have HU:Hid (PU w zX O):=by
  rw[hO];exact PU.new w _ _
 go_enter func101,ntmps101
 go_upto_region 1 with fail
 rw[<-hO];clear hO;go_wp2_with fail;refine (CC.out _).mono ?_;rintro e w' ⟨rfl,rfl⟩;clear CC
 cases b with
 |true=>
  have HZ:Hid (R=(3,uA,0)):=HR.out;have HUU:=HU;clear HR;go_wp2_with (refine oM HUU.out.1 0 (za 11) (us:=zX) rfl (lH ..) rfl _ _ rfl rfl rfl ?_;intro w9 HU9 HM9);refine bodyPost_ret (mG rfl _ _ w.heap.size (.int .i64 0) (.iface 69 (.agg #[.int .i64 3])) _ rfl rfl rfl rfl HU9) rfl ⟨by rw[HZ.out];rfl,HM9.2 _ _ (za _) HUU.out.2⟩
 |false=>
  go_wp2_with fail;refine (CK.out _ HU.out.2).mono ?_;rintro e w1 ⟨rfl,hb1⟩;have HU1:Hid (PU w zX w1):=HU.out.later hb1;clear hb1 HU CK
  by_cases hp:1<=pn/\pn<=65535
  .have HR2:Hid (R=if rC (aO Ho)=0 then (0,rV (aO Ho),pn)else (4,uA,0)):=by
    show _=_;rw[HR.out,if_neg de,if_pos hp]
   rw[if_pos hp]at CR;clear HR;go_wp2_with fail;refine (CR.out _).mono ?_;rintro e w' ⟨rfl,rfl⟩;clear CR;obtain ⟨k,n,nm,x0,x1,x2,x3,x4,x5,x6,x7,hhv⟩: ∃(k n:Int) (nm:ByteArray) (x0 x1 x2 x3 x4 x5 x6 x7:Int),rV (aO Ho)=⟨k,nm,n,[x0,x1,x2,x3,x4,x5,x6,x7]⟩:=by
    have h8:=iT Ho;generalize rV (aO Ho)=h at h8;obtain ⟨k,nm,n,z⟩:=h
    match z,h8 with
    |[x0,x1,x2,x3,x4,x5,x6,x7],_=>exact ⟨k,n,nm,x0,x1,x2,x3,x4,x5,x6,x7,rfl⟩
   have CH2:Hid (∀W,Below w.heap.size w W->CB 153 #[.string Ho] W (.tuple #[.agg (dU k nm n x0 x1 x2 x3 x4 x5 x6 x7).toArray,.int .i64 (rC (aO Ho))])):=fun W hb=>by
    have h:=CH.out W hb;rw[hhv]at h;exact h
   rw[hhv]at HR2;clear CH hhv;generalize rC (aO Ho)=rc at HR2 CH2;go_wp2_with fail;refine (CH2.out _ HU1.out.2).mono ?_;rintro e w2 ⟨rfl,hb2⟩;have HU2:Hid (PU w zX w2):=HU1.out.later hb2;clear hb2 HU1 CH2;have HU2a:Hid (PU w zX (w2.alloc (.cells #[.int .i64 0,.string ⟨#[]⟩,.int .i64 0,.int .i64 0,.int .i64 0,.int .i64 0,.int .i64 0,.int .i64 0,.int .i64 0,.int .i64 0,.int .i64 0] 26))):=HU2.out.later ((zm _ _).alloc (za _) _);have hlt:w.heap.size<w2.heap.size:=HU2.out.1.2.2
   go_upto_region 8 with (refine oM (UAt.new w2 _ _) 0 (za 11) (us:=dU k nm n x0 x1 x2 x3 x4 x5 x6 x7) rfl (lH ..) rfl _ _ rfl rfl rfl ?_;intro w3 HUh HMh)
   have HU3:Hid (PU w zX w3):=HU2a.out.moved hlt HMh;have HUH:Hid (UAt w3 w2.heap.size (dU k nm n x0 x1 x2 x3 x4 x5 x6 x7)):=HUh;clear HUh HMh HU2a HU2 hlt
   by_cases hr0:rc=0
   .have HZ:Hid (R=(0,⟨k,nm,n,[x0,x1,x2,x3,x4,x5,x6,x7]⟩,pn)):=by show _=_;rw[HR2.out,if_pos hr0]
    subst hr0;clear HR2;go_wp2_with (first|(refine YT HUH.out 0 (dU k nm n x0 x1 x2 x3 x4 x5 x6 x7) (fun j v hv=>by rw[Nat.zero_add];exact hv) rfl rfl _ rfl rfl ?_)|(refine oM HU3.out.1 0 (za 11) (us:=dU k nm n x0 x1 x2 x3 x4 x5 x6 x7) rfl (lH ..) rfl _ _ rfl rfl rfl ?_;intro w9 HU9 HM9));refine bodyPost_ret (mG rfl _ _ w.heap.size (.int .i64 pn) .nilIface _ rfl rfl rfl rfl HU9) rfl ⟨by rw[HZ.out];rfl,HM9.2 _ _ (za _) HU3.out.2⟩
   have HZ:Hid (R=(4,uA,0)):=by show _=_;rw[HR2.out,if_neg hr0]
   have hrb:(rc !=0)=true:=bne_iff_ne.2 hr0;have HUU:=HU3;clear HR2 hr0;go_wp2_with (refine oM HUU.out.1 0 (za 11) (us:=zX) rfl (lH ..) rfl _ _ rfl rfl rfl ?_;intro w9 HU9 HM9);refine bodyPost_ret (mG rfl _ _ w.heap.size (.int .i64 0) (.iface 69 (.agg #[.int .i64 4])) _ rfl rfl rfl rfl HU9) rfl ⟨by rw[HZ.out];rfl,HM9.2 _ _ (za _) HUU.out.2⟩
  have HZ:Hid (R=(5,uA,0)):=by
   show _=_;rw[HR.out,if_neg de,if_neg hp]
  rw[if_neg hp]at CR;clear HR;go_wp2_with fail;refine (CR.out _).mono ?_;rintro e w' ⟨rfl,rfl⟩;clear CR;have HUU:=HU1;go_wp2_with (refine oM HUU.out.1 0 (za 11) (us:=zX) rfl (lH ..) rfl _ _ rfl rfl rfl ?_;intro w9 HU9 HM9);refine bodyPost_ret (mG rfl _ _ w.heap.size (.int .i64 0) (.iface 69 (.agg #[.int .i64 5])) _ rfl rfl rfl rfl HU9) rfl ⟨by rw[HZ.out];rfl,HM9.2 _ _ (za _) HUU.out.2⟩
end
section
open Go.RowKit Go.Extern.Stop Go.Stop Go.Extern
theorem KJ(v:Value)(w:World):(callFunc 160 #[.iface 261 v]).run prog w=.ok (.value (.iface 159 (.agg #[.pointer (some ⟨14,261,none⟩)]))) w:=kr
theorem uB(w:World):(callFunc 343 #[.agg #[.pointer (some ⟨14,261,none⟩)]]).run prog w=.ok (.value (.bool true)) w:=kr
theorem KK(v:Value)(w:World):(Go.method 392 159 v "Comparable").run prog w=.ok (343,v) w:=kr
theorem YY:(prog.info? 261).map (·.comparable)=some true:=kr
theorem YZ:(prog.info? 280).map (·.size)=some 1:=kr
theorem ZB(v:Value)(xT:TypeId)(w:World):(Instr.typeAssert (.iface 261 v) xT 205 true).run prog w=.ok (.tuple #[.nilIface,.bool false]) w:=run_typeAssert_lacksB underlying205 kr kr v xT w
theorem zY(v:Value)(xT:TypeId)(w:World):(Instr.typeAssert (.iface 261 v) xT 167 true).run prog w=.ok (.tuple #[.nilIface,.bool false]) w:=run_typeAssert_lacksB underlying167 kr kr v xT w
theorem xK(v:Value)(xT:TypeId)(w:World):(Instr.typeAssert (.iface 261 v) xT 169 true).run prog w=.ok (.tuple #[.nilIface,.bool false]) w:=run_typeAssert_lacksB underlying169 kr kr v xT w
theorem ZC(v:Value)(xT:TypeId)(w:World):(Instr.typeAssert (.iface 138 v) xT 205 true).run prog w=.ok (.tuple #[.nilIface,.bool false]) w:=run_typeAssert_lacksB underlying205 kr kr v xT w
theorem xL(v:Value)(xT:TypeId)(w:World):(Instr.typeAssert (.iface 138 v) xT 167 true).run prog w=.ok (.tuple #[.iface 138 v,.bool true]) w:=run_typeAssert_hasB underlying167 kr v xT w
theorem KL(v:Value)(w:World):(Go.method 392 138 v "Unwrap").run prog w=.ok (337,v) w:=kr
theorem KM(s:ByteArray)(v:Value)(w:World):Calls prog 337 #[.agg #[.string s,v]] w fun e w'=>e=.returned v/\Below w.heap.size w w':=by
 go_enter func337,ntmps337;go_wp2;go_ret;exact ⟨rfl,(zm _ _).alloc (za _) _⟩
theorem Eu(b:Addr)(w:World):Calls prog 124 #[.nilIface,.iface 261 (.pointer (some b))] w fun e w'=>e=.returned (.bool false)/\w=w':=by
 have hn:=run_eql_iface_nil_left (P:=prog) w 261 (.pointer (some b)) underlying65;go_enter func124,ntmps124;go_wp2;go_ret;exact ⟨rfl,rfl⟩
theorem Hs(s:ByteArray)(b:Addr)(w:World):Calls prog 124 #[.iface 138 (.agg #[.string s,.iface 261 (.pointer (some b))]),.iface 261 (.pointer (some b))] w fun e w'=>e=.returned (.bool true)/\Below w.heap.size w w':=by
 obtain ⟨i,hi,hcmp⟩:=ze.1 YY;obtain ⟨j,hj,hjs⟩:=ze.1 YZ;have tT:=KJ;have cT:=uB;have mR:=KK;have nE:=ZB;have uE:=zY;have vE:=xK;have nW:=ZC;have uW:=xL;have mU:=KL;have heq: ∀W,(binOp .eql 65 (.iface 261 (.pointer (some b))) (.iface 261 (.pointer (some b)))).run prog W=.ok (.bool true) W:=fun W=>run_eql_iface_ptr_same (P:=prog) W b underlying65 underlying261 hi hcmp hj
 have hty:=run_eql_iface_types (P:=prog) 138 261 (.agg #[.string s,.iface 261 (.pointer (some b))]) (.pointer (some b)) underlying65 de w;go_enter func124,ntmps124;go_wp2;refine wp_loop_rounds 2 ?_;rw[rounds_succ];go_wp2_with (go_at_call 337;refine j6 (KM _ _ _) fun w1 b1=>?_);rw[rounds_succ];go_wp2;go_ret;exact ⟨rfl,b1⟩
theorem Ev(s:ByteArray)(a b:Addr)(ca cb:Array Value)(ta tb:TypeId)(w:World)(hne:a≠b)(ha:w.heap[a.block]? =some (.cells ca ta (0,0)))(hb:w.heap[b.block]? =some (.cells cb tb (0,0))):Calls prog 124 #[.iface 138 (.agg #[.string s,.iface 261 (.pointer (some a))]),.iface 261 (.pointer (some b))] w fun e w'=>e=.returned (.bool false)/\Below w.heap.size w w':=by
 obtain ⟨i,hi,hcmp⟩:=ze.1 YY;obtain ⟨j,hj,hjs⟩:=ze.1 YZ;have tT:=KJ;have cT:=uB;have mR:=KK;have nE:=ZB;have uE:=zY;have vE:=xK;have nW:=ZC;have uW:=xL;have mU:=KL;have hla:a.block<w.heap.size:=(zf.1 ha).1;have hlb:b.block<w.heap.size:=(zf.1 hb).1;have heq: ∀W,Below w.heap.size w W->(binOp .eql 65 (.iface 261 (.pointer (some a))) (.iface 261 (.pointer (some b)))).run prog W=.ok (.bool false) W:=fun W hb'=>run_eql_iface_ptr_other (P:=prog) W underlying65 underlying261 hi hcmp hj (by rw[hjs];decide) hne ((hb'.block _ hla).trans ha) ((hb'.block _ hlb).trans hb)
 have hty:=run_eql_iface_types (P:=prog) 138 261 (.agg #[.string s,.iface 261 (.pointer (some a))]) (.pointer (some b)) underlying65 de w;have HEQ:Hid (∀W,Below w.heap.size w W->(binOp .eql 65 (.iface 261 (.pointer (some a))) (.iface 261 (.pointer (some b)))).run prog W=.ok (.bool false) W):=heq;clear heq;go_enter func124,ntmps124;go_wp2;refine wp_loop_rounds 2 ?_;rw[rounds_succ];go_wp2_with (go_at_call 337;refine j6 (KM _ _ _) fun w1 b1=>?_;have h1:=HEQ.out _ b1);rw[rounds_succ];go_wp2;go_ret;exact ⟨rfl,b1⟩
def gvE(c:Nat):Nat:=match c with|1=>2|2=>3|3=>4|4=>1|_=>5
def gW(ad:Nat->Addr)(w:World):Prop:= ∀c,1<=c->c<=5->w.cell? ⟨gvE c,0,none⟩=some (.iface 261 (.pointer (some (ad c))))/\(∃cs t,w.heap[(ad c).block]? =some (.cells cs t (0,0)))/\ ∀d,1<=d->d<=5->d≠c->ad d≠ad c
theorem gW.later{ad:Nat->Addr}{w w':World}(h:gW ad w)(hb:Below w.heap.size w w'):gW ad w':=fun c h1 h5=>by
 obtain ⟨k1,⟨cs,t,k2⟩,k3⟩:=h c h1 h5;exact ⟨cell_later hb k1,⟨cs,t,(hb.block _ (zf.1 k2).1).trans k2⟩,k3⟩
theorem iK{ad:Nat->Addr}{w:World}(h:gW ad w)(s:ByteArray){c d:Nat}(h1:1<=c)(h5:c<=5)(k1:1<=d)(k5:d<=5):Calls prog 124 #[.iface 138 (.agg #[.string s,.iface 261 (.pointer (some (ad c)))]),.iface 261 (.pointer (some (ad d)))] w fun e w'=>e=.returned (.bool (decide (c=d)))/\Below w.heap.size w w':=by
 by_cases hcd:c=d
 .subst hcd
  rw[decide_eq_true rfl];exact Hs s _ w
 rw[decide_eq_false hcd];obtain ⟨_,⟨ca,ta,ha⟩,ne⟩:=h d k1 k5;obtain ⟨_,⟨cb,tb,hb⟩,_⟩:=h c h1 h5;exact Ev s _ _ _ _ _ _ w (ne c h1 h5 hcd) hb ha
end
section
open Go.ChangeShapes Go.WideShapes Go.ChangeAt Go.RowKit Go.Lib
def rA:List (String×DataW Unit):=[("math/bits.deBruijn32tab",Rows.laid_math_bits_deBruijn32tab),("math/bits.deBruijn64tab",Rows.laid_math_bits_deBruijn64tab),("internal/strconv.uint64pow10",Rows.laid_internal_strconv_uint64pow10),("unicode/utf8.acceptRanges",Rows.laid_unicode_utf8_acceptRanges),("errors.errorType",Rows.laid_errors_errorType),("loop.example/g00191/impl.plainMarks",Rows.laid_loop_example_g00191_impl_plainMarks),("loop.example/g00191/impl.keptMarks",Rows.laid_loop_example_g00191_impl_keptMarks),("loop.example/g00191/impl.errLong",Rows.laid_loop_example_g00191_impl_errLong),("loop.example/g00191/impl.errScheme",Rows.laid_loop_example_g00191_impl_errScheme),("loop.example/g00191/impl.errUser",Rows.laid_loop_example_g00191_impl_errUser),("loop.example/g00191/impl.errHost",Rows.laid_loop_example_g00191_impl_errHost),("loop.example/g00191/impl.errPort",Rows.laid_loop_example_g00191_impl_errPort),("unicode/utf8.first",Rows.laid_unicode_utf8_first)]
def xM:List (String×DataW Unit):=[("loop.example/g00191/impl.errLong",Rows.laid_loop_example_g00191_impl_errLong),("loop.example/g00191/impl.errScheme",Rows.laid_loop_example_g00191_impl_errScheme),("loop.example/g00191/impl.errUser",Rows.laid_loop_example_g00191_impl_errUser),("loop.example/g00191/impl.errHost",Rows.laid_loop_example_g00191_impl_errHost),("loop.example/g00191/impl.errPort",Rows.laid_loop_example_g00191_impl_errPort)]
def pV:List (String×DataW Unit):=[("math/bits.deBruijn32tab",Rows.laid_math_bits_deBruijn32tab),("math/bits.deBruijn64tab",Rows.laid_math_bits_deBruijn64tab),("internal/strconv.uint64pow10",Rows.laid_internal_strconv_uint64pow10),("unicode/utf8.acceptRanges",Rows.laid_unicode_utf8_acceptRanges),("loop.example/g00191/impl.plainMarks",Rows.laid_loop_example_g00191_impl_plainMarks),("loop.example/g00191/impl.keptMarks",Rows.laid_loop_example_g00191_impl_keptMarks)]++xM++[("unicode/utf8.first",Rows.laid_unicode_utf8_first)]
theorem KN{W:World}(h:laidMetH prog rA W):laidMet prog pV W/\handlesMet prog [("errors.errorType",Rows.laid_errors_errorType)] W:=h
theorem NF{P:Program}{w:World}{l l':List (String×DataW Unit)}(h:l'.Sublist l): ∀{ps:List MemPlace},DataW.LaidVars P w l ps-> ∃ps',DataW.LaidVars P w l' ps'/\ps'.Sublist ps:=by
 induction h with
 |slnil=>exact fun {ps} hl=>⟨ps,hl,List.Sublist.refl _⟩
 |cons a _ ih=>
  rintro ps ⟨g,t,cs,f,p,q,h1,h2,h3,h4,h5,rfl⟩;obtain ⟨ps',k1,k2⟩:=ih h5;exact ⟨ps',k1,k2.trans (zg _ _)⟩
 |cons_cons a _ ih=>
  rintro ps ⟨g,t,cs,f,p,q,h1,h2,h3,h4,h5,rfl⟩;obtain ⟨ps',k1,k2⟩:=ih h5;exact ⟨_,⟨g,t,cs,f,p,ps',h1,h2,h3,h4,k1,rfl⟩,(List.Sublist.refl _).append k2⟩
theorem zZ{P:Program}{w:World}{l l':List (String×DataW Unit)}(h:l'.Sublist l)(hl:laidMet P l w):laidMet P l' w:=by
 obtain ⟨ps,h1,h2,h3⟩:=hl;obtain ⟨ps',k1,k2⟩:=NF h h1;exact ⟨ps',k1,k2.nodup h2,fun b off hm=>h3 b off (k2.subset hm)⟩
theorem Ew:nF.Sublist pV:=by
 unfold nF pV;refine .cons_cons _ (.cons_cons _ (.cons_cons _ (.cons_cons _ (.cons_cons _ (.cons_cons _ (?_))))));exact zg xM [("unicode/utf8.first",Rows.laid_unicode_utf8_first)]
theorem Ex:xM.Sublist pV:=by
 unfold pV;exact (zg _ xM).trans (List.sublist_append_left _ _)
theorem xN{W:World}(h:laidMetH prog rA W):laidMetH prog qF W:=by
 obtain ⟨h1,h2⟩:=KN h;exact ⟨zZ Ew h1,h2⟩
theorem SU{H:Type}{enc:TypeId×Value->H}{P:Program}{w:World}{sp:Nat->Bool}: ∀{ns:List String} {gs:List (DataW H)} {ps:List MemPlace},DataW.TrodVars enc P w sp ns gs ps->gs.length=ns.length
 |[],[],_,_=>rfl
 |[],_::_,_,h=>h.elim
 |_::_,[],_,h=>h.elim
 |_::_,_::_,_,⟨_,_,_,_,_,_,_,_,_,_,h,_⟩=>by rw[zp,zp,SU h]
theorem WF{H:Type}{enc:TypeId×Value->H}{P:Program}{w:World}{sp:Nat->Bool}{n0 n1 n2 n3 n4 n5 n6:String}{gs:List (DataW H)}{ps:List MemPlace}(h:DataW.TrodVars enc P w sp [n0,n1,n2,n3,n4,n5,n6] gs ps): ∃g0 g1 g2 g3 g4 g5 g6,gs=[g0,g1,g2,g3,g4,g5,g6]:=by
 have hl:=SU h
 match gs,hl with
 |[a,b,c,d,e,f,g],_=>exact ⟨a,b,c,d,e,f,g,rfl⟩
theorem SV: "*" ++ "errors.errorString" = "*errors.errorString" :=de
theorem As(u:TypeId)(h:prog.typeName? 3 u=some "*errors.errorString"):u=261:=
 typeName_ptr_named (nm:= "errors.errorString") (by rw[SV];kernel_rfl) kr de u (by rw[SV];exact h)
theorem I1{P:Program}{n1 n2 n3 n4 n5 nm:String}{x1 x2 x3 x4 x5:List UInt8}{W:World}{g1 g2 g3 g4 g5:Nat}{ti tp te ts:TypeId}{ms:Array (String×TypeId)}{f:Field}
  (h:laidMet P [(n1,.iface nm (.ptr (.agg [.lit (.string x1)]))),(n2,.iface nm (.ptr (.agg [.lit (.string x2)]))),(n3,.iface nm (.ptr (.agg [.lit (.string x3)]))),(n4,.iface nm (.ptr (.agg [.lit (.string x4)]))),(n5,.iface nm (.ptr (.agg [.lit (.string x5)])))] W)
  (hg1:P.globalNamed n1=some g1) (ht1:(P.globals[g1]?).map (·.type)=some ti) (hg2:P.globalNamed n2=some g2) (ht2:(P.globals[g2]?).map (·.type)=some ti) (hg3:P.globalNamed n3=some g3) (ht3:(P.globals[g3]?).map (·.type)=some ti) (hg4:P.globalNamed n4=some g4) (ht4:(P.globals[g4]?).map (·.type)=some ti) (hg5:P.globalNamed n5=some g5) (ht5:(P.globals[g5]?).map (·.type)=some ti)
  (hi:P.underlying ti=some (.interface ms)) (hrow: ∀u,P.typeName? 3 u=some nm->u=tp)
  (hp:P.underlying tp=some (.pointer te)) (he:P.underlying te=some (.struct #[f])) (hft:f.type=ts) (hfo:f.offset=0) (hs:P.underlying ts=some .string) (hc:P.cellsOf te=1) (hcs:P.cellsOf ts=1):
  ∃a1 a2 a3 a4 a5:Addr,(W.var? P n1=some #[.iface tp (.pointer (some a1))]/\W.var? P n2=some #[.iface tp (.pointer (some a2))]/\W.var? P n3=some #[.iface tp (.pointer (some a3))]/\W.var? P n4=some #[.iface tp (.pointer (some a4))]/\W.var? P n5=some #[.iface tp (.pointer (some a5))])/\
   ((∃c t,W.heap[a1.block]? =some (.cells c t (0,0)))/\(∃c t,W.heap[a2.block]? =some (.cells c t (0,0)))/\(∃c t,W.heap[a3.block]? =some (.cells c t (0,0)))/\(∃c t,W.heap[a4.block]? =some (.cells c t (0,0)))/\ ∃c t,W.heap[a5.block]? =some (.cells c t (0,0)))/\
   [a1,a2,a3,a4,a5].Nodup:=by
 obtain ⟨ps,⟨g1',t1',cs1,f1,p1,q1,hg1',ht1',hv1,hd1,⟨g2',t2',cs2,f2,p2,q2,hg2',ht2',hv2,hd2,⟨g3',t3',cs3,f3,p3,q3,hg3',ht3',hv3,hd3,⟨g4',t4',cs4,f4,p4,q4,hg4',ht4',hv4,hd4,⟨g5',t5',cs5,f5,p5,q5,hg5',ht5',hv5,hd5,_,e5⟩,e4⟩,e3⟩,e2⟩,e1⟩,hnd,hrows⟩:=h
 obtain rfl:=zd.inj (hg1.symm.trans hg1')
 obtain rfl:=zd.inj (hg2.symm.trans hg2')
 obtain rfl:=zd.inj (hg3.symm.trans hg3')
 obtain rfl:=zd.inj (hg4.symm.trans hg4')
 obtain rfl:=zd.inj (hg5.symm.trans hg5')
 obtain rfl:=zd.inj (ht1.symm.trans ht1')
 obtain rfl:=zd.inj (ht2.symm.trans ht2')
 obtain rfl:=zd.inj (ht3.symm.trans ht3')
 obtain rfl:=zd.inj (ht4.symm.trans ht4')
 obtain rfl:=zd.inj (ht5.symm.trans ht5')
 subst e5 e4 e3 e2 e1;obtain ⟨l1⟩:=cs1;obtain ⟨l2⟩:=cs2;obtain ⟨l3⟩:=cs3;obtain ⟨l4⟩:=cs4;obtain ⟨l5⟩:=cs5;have ok1: ∀u v,l1=[.iface u v]->Value.okWide P W .any 0 u v:=fun u v e=>by
  subst e;exact (hrows g1 0 (by simp[MemPlace.row])).2 u v (by simpa using zc hg1' hv1 0)
 have ok2: ∀u v,l2=[.iface u v]->Value.okWide P W .any 0 u v:=fun u v e=>by
  subst e;exact (hrows g2 0 (by simp[MemPlace.row])).2 u v (by simpa using zc hg2' hv2 0)
 have ok3: ∀u v,l3=[.iface u v]->Value.okWide P W .any 0 u v:=fun u v e=>by
  subst e;exact (hrows g3 0 (by simp[MemPlace.row])).2 u v (by simpa using zc hg3' hv3 0)
 have ok4: ∀u v,l4=[.iface u v]->Value.okWide P W .any 0 u v:=fun u v e=>by
  subst e;exact (hrows g4 0 (by simp[MemPlace.row])).2 u v (by simpa using zc hg4' hv4 0)
 have ok5: ∀u v,l5=[.iface u v]->Value.okWide P W .any 0 u v:=fun u v e=>by
  subst e;exact (hrows g5 0 (by simp[MemPlace.row])).2 u v (by simpa using zc hg5' hv5 0)
 obtain ⟨a1,s1,rfl,hc1,hs1,hz1,rfl⟩:=errorString_of_trod hi hrow hp he hft hfo hs hc hcs hd1 ok1;obtain ⟨a2,s2,rfl,hc2,hs2,hz2,rfl⟩:=errorString_of_trod hi hrow hp he hft hfo hs hc hcs hd2 ok2;obtain ⟨a3,s3,rfl,hc3,hs3,hz3,rfl⟩:=errorString_of_trod hi hrow hp he hft hfo hs hc hcs hd3 ok3;obtain ⟨a4,s4,rfl,hc4,hs4,hz4,rfl⟩:=errorString_of_trod hi hrow hp he hft hfo hs hc hcs hd4 ok4;obtain ⟨a5,s5,rfl,hc5,hs5,hz5,rfl⟩:=errorString_of_trod hi hrow hp he hft hfo hs hc hcs hd5 ok5;refine ⟨a1,a2,a3,a4,a5,⟨hv1,hv2,hv3,hv4,hv5⟩,⟨(hrows a1.block a1.off (by simp[MemPlace.row])).1,(hrows a2.block a2.off (by simp[MemPlace.row])).1,(hrows a3.block a3.off (by simp[MemPlace.row])).1,(hrows a4.block a4.off (by simp[MemPlace.row])).1,(hrows a5.block a5.off (by simp[MemPlace.row])).1⟩,?_⟩;have hm: ∀x y:Addr,x=y->MemPlace.cell x.block x.off=MemPlace.cell y.block y.off:=fun x y e=>by rw[e]
 simp[MemPlace.row]at hnd;simp only[zr,List.mem_cons,zq,or_false,not_or,not_false_eq_true,List.nodup_nil,and_true];refine ⟨⟨?_,?_,?_,?_⟩,⟨?_,?_,?_⟩,⟨?_,?_⟩,?_⟩<;>(rintro rfl;simp at hnd)
theorem At{W:World}(h:laidMetH prog rA W): ∃ad,gW ad W:=by
 have h1:=zZ Ex (KN h).1;unfold xM at h1;have e1:prog.globalNamed "loop.example/g00191/impl.errLong" =some 2:=kr;have e2:prog.globalNamed "loop.example/g00191/impl.errScheme" =some 3:=kr;have e3:prog.globalNamed "loop.example/g00191/impl.errUser" =some 4:=kr;have e4:prog.globalNamed "loop.example/g00191/impl.errHost" =some 1:=kr;have e5:prog.globalNamed "loop.example/g00191/impl.errPort" =some 5:=kr;obtain ⟨a1,a2,a3,a4,a5,⟨v1,v2,v3,v4,v5⟩,⟨b1,b2,b3,b4,b5⟩,hn⟩:=I1 (ti:=65) (ts:=9) h1 e1 kr e2 kr e3 kr e4 kr e5 kr underlying65 As underlying261 underlying280 rfl rfl underlying9 kr kr;have k1:=zc e1 v1 0;have k2:=zc e2 v2 0;have k3:=zc e3 v3 0;have k4:=zc e4 v4 0;have k5:=zc e5 v5 0;simp at k1 k2 k3 k4 k5;simp only[zr,List.mem_cons,zq,or_false,not_or,not_false_eq_true,List.nodup_nil,and_true]at hn;obtain ⟨⟨n12,n13,n14,n15⟩,⟨n23,n24,n25⟩,⟨n34,n35⟩,n45⟩:=hn;refine ⟨fun c=>match c with|1=>a1|2=>a2|3=>a3|4=>a4|_=>a5,fun c h1 h5=> ?_⟩;have hc:c=1∨c=2∨c=3∨c=4∨c=5:=om
 rcases hc with rfl|rfl|rfl|rfl|rfl
 .refine ⟨k1,b1,fun d d1 d5 hd=> ?_⟩
  have hc:d=2∨d=3∨d=4∨d=5:=om
  rcases hc with rfl|rfl|rfl|rfl
  .exact Ne.symm n12
  .exact Ne.symm n13
  .exact Ne.symm n14
  exact Ne.symm n15
 .refine ⟨k2,b2,fun d d1 d5 hd=> ?_⟩
  have hc:d=1∨d=3∨d=4∨d=5:=om
  rcases hc with rfl|rfl|rfl|rfl
  .exact n12
  .exact Ne.symm n23
  .exact Ne.symm n24
  exact Ne.symm n25
 .refine ⟨k3,b3,fun d d1 d5 hd=> ?_⟩
  have hc:d=1∨d=2∨d=4∨d=5:=om
  rcases hc with rfl|rfl|rfl|rfl
  .exact n13
  .exact n23
  .exact Ne.symm n34
  exact Ne.symm n35
 .refine ⟨k4,b4,fun d d1 d5 hd=> ?_⟩
  have hc:d=1∨d=2∨d=3∨d=5:=om
  rcases hc with rfl|rfl|rfl|rfl
  .exact n14
  .exact n24
  .exact n34
  exact Ne.symm n45
 refine ⟨k5,b5,fun d d1 d5 hd=> ?_⟩;have hc:d=1∨d=2∨d=3∨d=4:=om
 rcases hc with rfl|rfl|rfl|rfl
 .exact n15
 .exact n25
 .exact n35
 exact n45
def xO:DataW Unit->ByteArray
 | .iface _ (.ptr (.agg [.lit (.string l)]))=>⟨l.toArray⟩
 |_=>⟨#[]⟩
def iV:Array Obj:= #[.cells #[.string (xO Rows.laid_loop_example_g00191_impl_errLong)] 280,.cells #[.string (xO Rows.laid_loop_example_g00191_impl_errScheme)] 280,.cells #[.string (xO Rows.laid_loop_example_g00191_impl_errUser)] 280,.cells #[.string (xO Rows.laid_loop_example_g00191_impl_errHost)] 280,.cells #[.string (xO Rows.laid_loop_example_g00191_impl_errPort)] 280]
def FK(b:Nat):Obj->Obj
 | .cells _ t frozen=> .cells #[.iface 261 (.pointer (some ⟨b,0,none⟩))] t frozen
 |o=>o
def BJ(h:Array Obj):Array Obj:=(((((Cu h).modify 2 (FK 19)).modify 3 (FK 20)).modify 4 (FK 21)).modify 1 (FK 22)).modify 5 (FK 23)
theorem Ey(os:Os)(args:Array Value):laidMetH prog rA (({World.holding prog os ⟨iV,#[],[]⟩with heap:=BJ (World.holding prog os ⟨iV,#[],[]⟩).heap}:World).forCall (fun _ _=>0) ⟨#[],args,[]⟩).memory:=
 laidMetH_of_parts (LaidIn.of_run (l:=pV) [10,11,7,13,6,9,2,19,3,20,4,21,1,22,5,23,12] 8 kr kr kr kr).met kr
end
section
def tE(ok:ByteArray->Bool)(sh t:ByteArray):ByteArray:=if ok t=true/\(sh.size=0∨t.size<sh.size)then t else sh
def zA(ok:ByteArray->Bool)(ts:List ByteArray):ByteArray:=ts.foldl (tE ok) ⟨#[]⟩
theorem rB(ok:ByteArray->Bool)(sh t:ByteArray):tE ok sh t=if ok t=true/\(sh.size=0∨t.size<sh.size)then t else sh:=rfl
theorem NG(ok:ByteArray->Bool): ∀(ts:List ByteArray) (sh:ByteArray),ts.foldl (tE ok) sh=sh∨(ts.foldl (tE ok) sh∈ts/\ok (ts.foldl (tE ok) sh)=true)
 |[],_=> .inl rfl
 |t::ts,sh=>by
  rw[zj]
  rcases NG ok ts (tE ok sh t)with h|⟨h1,h2⟩
  .rw[h,rB]
   split
   .next hc=>exact .inr ⟨zn,hc.1⟩
   exact .inl rfl
  exact .inr ⟨zl _ h1,h2⟩
theorem I2{ok:ByteArray->Bool}{t:ByteArray}{ts:List ByteArray}(h:ok t=true):ok (zA ok (t::ts))=true/\zA ok (t::ts)∈t::ts:=by
 unfold zA;rw[zj,rB,if_pos ⟨h,.inl rfl⟩]
 rcases NG ok ts t with e|⟨h1,h2⟩
 .rw[e]
  exact ⟨h,zn⟩
 exact ⟨h2,zl _ h1⟩
theorem Au{ok:ByteArray->Bool}{t:ByteArray}{ts:List ByteArray}(h:ok t=true):(zA ok (ts++[t])).size<=t.size:=by
 unfold zA;rw[List.foldl_append,zj,List.foldl_nil,rB];split
 .exact za _
 next hc=>
 have: ¬((ts.foldl (tE ok) ⟨#[]⟩).size=0∨t.size<(ts.foldl (tE ok) ⟨#[]⟩).size):=fun k=>hc ⟨h,k⟩
 omega
theorem Ez(ok:ByteArray->Bool)(ts:List ByteArray)(m:Nat)(h: ∀t∈ts,t.size<=m):(zA ok ts).size<=m:=by
 unfold zA
 rcases NG ok ts ⟨#[]⟩with e|⟨h1,_⟩
 .rw[e];exact Nat.zero_le _
 exact h _ h1
end
section
open Go.RowKit
def pW(W:World)(B:Nat):Prop:=
 W.cell? ⟨B,0,none⟩=some (.int .i64 0)/\W.cell? ⟨B,1,none⟩=some (.string ⟨#[]⟩)/\W.cell? ⟨B,2,none⟩=some (.int .i64 0)/\W.cell? ⟨B,3,none⟩=some (.int .i64 0)/\W.cell? ⟨B,4,none⟩=some (.int .i64 0)/\
 W.cell? ⟨B,5,none⟩=some (.int .i64 0)/\W.cell? ⟨B,6,none⟩=some (.int .i64 0)/\W.cell? ⟨B,7,none⟩=some (.int .i64 0)/\W.cell? ⟨B,8,none⟩=some (.int .i64 0)/\W.cell? ⟨B,9,none⟩=some (.int .i64 0)/\W.cell? ⟨B,10,none⟩=some (.int .i64 0)
def Av(w W:World):Prop:=pW W w.heap.size/\pW W (w.heap.size+1)/\ ∀j,W.frozen? ⟨w.heap.size,j,none⟩=false
theorem Gc(w W:World)(t:TypeId)(hb:Below ((w.alloc (.cells #[.int .i64 0,.string ⟨#[]⟩,.int .i64 0,.int .i64 0,.int .i64 0,.int .i64 0,.int .i64 0,.int .i64 0,.int .i64 0,.int .i64 0,.int .i64 0] t)).alloc (.cells #[.int .i64 0,.string ⟨#[]⟩,.int .i64 0,.int .i64 0,.int .i64 0,.int .i64 0,.int .i64 0,.int .i64 0,.int .i64 0,.int .i64 0,.int .i64 0] t)).heap.size ((w.alloc (.cells #[.int .i64 0,.string ⟨#[]⟩,.int .i64 0,.int .i64 0,.int .i64 0,.int .i64 0,.int .i64 0,.int .i64 0,.int .i64 0,.int .i64 0,.int .i64 0] t)).alloc (.cells #[.int .i64 0,.string ⟨#[]⟩,.int .i64 0,.int .i64 0,.int .i64 0,.int .i64 0,.int .i64 0,.int .i64 0,.int .i64 0,.int .i64 0,.int .i64 0] t)) W):Av w W:=by
 have h1:=((zm _ (w.alloc (.cells #[.int .i64 0,.string ⟨#[]⟩,.int .i64 0,.int .i64 0,.int .i64 0,.int .i64 0,.int .i64 0,.int .i64 0,.int .i64 0,.int .i64 0,.int .i64 0] t))).alloc (za _) (.cells #[.int .i64 0,.string ⟨#[]⟩,.int .i64 0,.int .i64 0,.int .i64 0,.int .i64 0,.int .i64 0,.int .i64 0,.int .i64 0,.int .i64 0,.int .i64 0] t)).trans (hb.mono j2);have h2:=fT _ W _ _ _ 0 0 0 0 0 0 0 0 t hb;unfold eY at h2;simp only[show (w.alloc (.cells #[.int .i64 0,.string ⟨#[]⟩,.int .i64 0,.int .i64 0,.int .i64 0,.int .i64 0,.int .i64 0,.int .i64 0,.int .i64 0,.int .i64 0,.int .i64 0] t)).heap.size=w.heap.size+1 by simp]at h2;exact ⟨fT w W _ _ _ 0 0 0 0 0 0 0 0 t h1,h2,zQ w W _ t h1⟩
theorem dM{W:World}{B:Nat}(h:pW W B):fA W B (dU 0 ⟨#[]⟩ 0 0 0 0 0 0 0 0 0):=by
 obtain ⟨c0,c1,c2,c3,c4,c5,c6,c7,c8,c9,c10⟩:=h;intro j v hv
 match j,hv with
 |0,hv=>cases hv;exact c0
 |1,hv=>cases hv;exact c1
 |2,hv=>cases hv;exact c2
 |3,hv=>cases hv;exact c3
 |4,hv=>cases hv;exact c4
 |5,hv=>cases hv;exact c5
 |6,hv=>cases hv;exact c6
 |7,hv=>cases hv;exact c7
 |8,hv=>cases hv;exact c8
 |9,hv=>cases hv;exact c9
 |10,hv=>cases hv;exact c10
 |j+11,hv=>simp[dU]at hv
theorem Aw{s:ByteArray}(h:1<s.size):(s.extract 1 s.size).data.toList.getLast? =some (s[s.size-1]'om):=by
 rw[aZ,cS s s.size (za _),List.getLast?_drop,if_neg (by simp;omega)];exact LP s om
theorem Ht{s:ByteArray}(h:1<s.size):(s.extract 1 s.size).data.toList.dropLast=(s.extract 1 (s.size-1)).data.toList:=by
 have hl:s.data.toList.length=s.size:=by simp
 rw[aZ,aZ,cS s s.size (za _),List.dropLast_eq_take,zo,hl,List.take_drop,show 1+(s.size-1-1)=s.size-1 by omega]
theorem nil_r{s:ByteArray}(h: ¬1<s.size):(s.extract 1 s.size).data.toList.getLast? =none:=by
 have e:(s.extract 1 s.size).data.toList=[]:=List.eq_nil_of_length_eq_zero (by simp;omega);rw[e];rfl
theorem BK{W:World}{B:Nat}{vs:List Value}(h:fA W B vs){C:Nat}(hne:B≠C)(x0 x1 x2 x3 x4 x5 x6 x7:Int):fA ((((((((W.setCell ⟨C,0,none⟩ (.int .i64 x0)).setCell ⟨C,1,none⟩ (.int .i64 x1)).setCell ⟨C,2,none⟩ (.int .i64 x2)).setCell ⟨C,3,none⟩ (.int .i64 x3)).setCell ⟨C,4,none⟩ (.int .i64 x4)).setCell ⟨C,5,none⟩ (.int .i64 x5)).setCell ⟨C,6,none⟩ (.int .i64 x6)).setCell ⟨C,7,none⟩ (.int .i64 x7)) B vs:=
 (((((((h.other hne 0 _).other hne 1 _).other hne 2 _).other hne 3 _).other hne 4 _).other hne 5 _).other hne 6 _).other hne 7 _
theorem FL(s:ByteArray)(w:World)(h0:s.size=0):Calls prog 58 #[.string s] w fun e w'=>e=.returned (.tuple #[fB (rV (aO s)),.int .i64 (rC (aO s))])/\Below w.heap.size w w':=by
 rw[IY h0];show Calls _ _ _ _ fun e w'=>e=.returned (.tuple #[.agg #[.int .i64 0,.string ⟨#[]⟩,.int .i64 0,.int .i64 0,.int .i64 0,.int .i64 0,.int .i64 0,.int .i64 0,.int .i64 0,.int .i64 0,.int .i64 0],.int .i64 1])/\Below w.heap.size w w'
 have hem:=aV h0;clear h0;go_enter func58,ntmps58;go_wp2_with fail;go_returns;exact ⟨rfl,by go_grown⟩
theorem FM(s:ByteArray)(w:World)(hs:s.size<=1048576)(hp:0<s.size)(h9: ¬s[0].toNat=91):Calls prog 58 #[.string s] w fun e w'=>e=.returned (.tuple #[fB (rV (aO s)),.int .i64 (rC (aO s))])/\Below w.heap.size w w':=by
 rw[uL hp h9];have hem:=aX hp;obtain ⟨d,hd⟩: ∃d:Nat,s[0].toNat=d:=⟨_,rfl⟩;have q0:((d:Int)==91)=false:=beq_eq_false_iff_ne.2 om;have hus:=Nat.le_trans (PO s) hs;obtain ⟨O,hO⟩: ∃O,O=(w.alloc (.cells #[.int .i64 0,.string ⟨#[]⟩,.int .i64 0,.int .i64 0,.int .i64 0,.int .i64 0,.int .i64 0,.int .i64 0,.int .i64 0,.int .i64 0,.int .i64 0] 26)).alloc (.cells #[.int .i64 0,.string ⟨#[]⟩,.int .i64 0,.int .i64 0,.int .i64 0,.int .i64 0,.int .i64 0,.int .i64 0,.int .i64 0,.int .i64 0,.int .i64 0] 26):=⟨_,rfl⟩;have HL:Hid (∀W,Below O.heap.size O W->Av w W):=fun W h=>by rw[hO]at h;exact Gc w W _ h
 have HE:Hid (∀W,Below O.heap.size O W->Below w.heap.size w W):=fun W h=>by
  rw[hO]at h;exact (((zm _ w).alloc (za _) _).alloc j2 _).trans (h.mono (by simp;omega))
 have CU:Hid (Calls prog 115 #[.string s] O fun e w'=>e=.returned (.string (unB s))/\Hid (Below O.heap.size O w')):=GH s O om;have CN:Hid (∀W,Below O.heap.size O W->Calls prog 86 #[.string (unB s)] W fun e w'=>e=.returned (dT (cV (unB s)))/\Hid (Below O.heap.size O w')):=fun W hb=>(VT (unB s) W hus).mono fun e w' h=>⟨h.1,hb.trans (h.2.mono hb.size)⟩
 have HZ0:Hid (fX s=match cV (unB s)with
  |none=> .bad 3
  |some n=>iQ n):=rfl
 have HNL:Hid (∀n,cV (unB s)=some n->n.length<=253):=fun n hn=>(wF hn)
 generalize unB s=u at CU CN HZ0 HNL;clear hus h9
 cases hn:cV u with
 |none=>
  have HZ:Hid (fX s=.bad 3):=by
   show _=_;rw[HZ0.out,hn]
  rw[HZ.out];show Calls _ _ _ _ fun e w'=>e=.returned (.tuple #[.agg #[.int .i64 0,.string ⟨#[]⟩,.int .i64 0,.int .i64 0,.int .i64 0,.int .i64 0,.int .i64 0,.int .i64 0,.int .i64 0,.int .i64 0,.int .i64 0],.int .i64 3])/\Below w.heap.size w w'
  rw[hn,show dT none=.tuple #[.string ⟨#[]⟩,.bool false] from rfl]at CN;clear hn HZ0 HNL HZ;go_enter func58,ntmps58;go_wp2_with fail;rw[<-hO];refine CU.out.mono ?_;rintro e w1 ⟨rfl,b1⟩;go_wp2_with fail;refine (CN.out _ b1.out).mono ?_;rintro e w2 ⟨rfl,b2⟩;have hl3:=HL.out w2 b2.out;have HR:Hid (fA w2 w.heap.size (dU 0 ⟨#[]⟩ 0 0 0 0 0 0 0 0 0)):=dM hl3.1;have BW:Hid (Below w.heap.size w w2):=HE.out _ b2.out;obtain ⟨⟨c0,c1,c2,c3,c4,c5,c6,c7,c8,c9,c10⟩,⟨d0,d1,d2,d3,d4,d5,d6,d7,d8,d9,d10⟩,fz⟩:=hl3;go_wp2_with fail;refine bodyPost_ret (fV rfl _ _ w.heap.size _ 0 0 ⟨#[]⟩ 0 0 0 0 0 0 0 0 rfl rfl (eQ HR.out 0 0 ⟨#[]⟩ 0 0 0 0 0 0 0 0)) rfl ⟨rfl,fU BW.out (za _) 0 0 ⟨#[]⟩ 0 0 0 0 0 0 0 0⟩
 |some n=>
  have hl:=HNL.out n hn;have HZ1:Hid (fX s=iQ n):=by
   show _=_;rw[HZ0.out,hn]
  rw[hn,show dT (some n)=.tuple #[.string ⟨n.toArray⟩,.bool true] from rfl]at CN;have hns:(⟨n.toArray⟩:ByteArray).size<=1048576:=by
   show n.toArray.size<=_;rw[List.size_toArray];omega
  have CE:Hid (∀W,Below O.heap.size O W->Calls prog 87 #[.string ⟨n.toArray⟩] W fun e w'=>e=.returned (.bool (qO ⟨n.toArray⟩))/\Hid (Below O.heap.size O w')):=fun W hb=>(yH _ W hns).mono fun e w' h=>⟨h.1,hb.trans (h.2.mono hb.size)⟩
  have CL:Hid (∀W,Below O.heap.size O W->Calls prog 116 #[.string ⟨n.toArray⟩] W fun e w'=>e=.returned (eN (loA ⟨n.toArray⟩))/\Hid (Below O.heap.size O w')):=fun W hb=>(KZ _ W hns).mono fun e w' h=>⟨h.1,hb.trans (h.2.mono hb.size)⟩
  have HM:Hid (iQ n=if qO ⟨n.toArray⟩=true then (match loA ⟨n.toArray⟩with
   |none=> .bad 4
   |some v=> .fo v)else .nm n):=rfl
  have HMV:Hid (fB (rV (.nm n))=.agg #[.int .i64 1,.string ⟨n.toArray⟩,.int .i64 0,.int .i64 0,.int .i64 0,.int .i64 0,.int .i64 0,.int .i64 0,.int .i64 0,.int .i64 0,.int .i64 0]):=rfl;generalize (⟨n.toArray⟩:ByteArray)=T at CN CE CL HM HMV;clear hn HZ0 HNL hl hns
  cases he:qO T with
  |false=>
   have HZ:Hid (fX s=.nm n):=by
    show _=_;rw[HZ1.out,HM.out,he,if_neg de]
   rw[HZ.out,HMV.out,show rC (.nm n)=0 from rfl];rw[he]at CE;clear he HZ1 HM CL HZ HMV;go_enter func58,ntmps58;go_wp2_with fail;rw[<-hO];refine CU.out.mono ?_;rintro e w1 ⟨rfl,b1⟩;go_wp2_with fail;refine (CN.out _ b1.out).mono ?_;rintro e w2 ⟨rfl,b2⟩;go_wp2_with fail;refine (CE.out _ b2.out).mono ?_;rintro e w3 ⟨rfl,b3⟩;have hl3:=HL.out w3 b3.out;have HR:Hid (fA w3 w.heap.size (dU 0 ⟨#[]⟩ 0 0 0 0 0 0 0 0 0)):=dM hl3.1;have BW:Hid (Below w.heap.size w w3):=HE.out _ b3.out;obtain ⟨⟨c0,c1,c2,c3,c4,c5,c6,c7,c8,c9,c10⟩,⟨d0,d1,d2,d3,d4,d5,d6,d7,d8,d9,d10⟩,fz⟩:=hl3;go_wp2_with fail;refine bodyPost_ret (fV rfl _ _ w.heap.size _ 1 0 T 0 0 0 0 0 0 0 0 rfl rfl (eQ HR.out 1 0 T 0 0 0 0 0 0 0 0)) rfl ⟨rfl,fU BW.out (za _) 1 0 T 0 0 0 0 0 0 0 0⟩
  |true=>
   rw[he]at CE
   cases hlo:loA T with
   |none=>
    have HZ:Hid (fX s=.bad 4):=by
     show _=_;rw[HZ1.out,HM.out,he,if_pos rfl,hlo]
    rw[HZ.out];show Calls _ _ _ _ fun e w'=>e=.returned (.tuple #[.agg #[.int .i64 0,.string ⟨#[]⟩,.int .i64 0,.int .i64 0,.int .i64 0,.int .i64 0,.int .i64 0,.int .i64 0,.int .i64 0,.int .i64 0,.int .i64 0],.int .i64 4])/\Below w.heap.size w w'
    rw[hlo,show eN none=.tuple #[.int .i64 0,.bool false] from rfl]at CL;clear he hlo HZ1 HM HMV HZ;go_enter func58,ntmps58;go_wp2_with fail;rw[<-hO];refine CU.out.mono ?_;rintro e w1 ⟨rfl,b1⟩;go_wp2_with fail;refine (CN.out _ b1.out).mono ?_;rintro e w2 ⟨rfl,b2⟩;go_wp2_with fail;refine (CE.out _ b2.out).mono ?_;rintro e w3 ⟨rfl,b3⟩;go_wp2_with fail;refine (CL.out _ b3.out).mono ?_;rintro e w4 ⟨rfl,b4⟩;have hl3:=HL.out w4 b4.out;have HR:Hid (fA w4 w.heap.size (dU 0 ⟨#[]⟩ 0 0 0 0 0 0 0 0 0)):=dM hl3.1;have BW:Hid (Below w.heap.size w w4):=HE.out _ b4.out;obtain ⟨⟨c0,c1,c2,c3,c4,c5,c6,c7,c8,c9,c10⟩,⟨d0,d1,d2,d3,d4,d5,d6,d7,d8,d9,d10⟩,fz⟩:=hl3;go_wp2_with fail;refine bodyPost_ret (fV rfl _ _ w.heap.size _ 0 0 ⟨#[]⟩ 0 0 0 0 0 0 0 0 rfl rfl (eQ HR.out 0 0 ⟨#[]⟩ 0 0 0 0 0 0 0 0)) rfl ⟨rfl,fU BW.out (za _) 0 0 ⟨#[]⟩ 0 0 0 0 0 0 0 0⟩
   |some v=>
    have HZ:Hid (fX s=.fo v):=by
     show _=_;rw[HZ1.out,HM.out,he,if_pos rfl,hlo]
    rw[HZ.out];obtain ⟨y,hy⟩: ∃y:Int,(v:Int)=y:=⟨_,rfl⟩;show Calls _ _ _ _ fun e w'=>e=.returned (.tuple #[.agg #[.int .i64 2,.string ⟨#[]⟩,.int .i64 (v:Int),.int .i64 0,.int .i64 0,.int .i64 0,.int .i64 0,.int .i64 0,.int .i64 0,.int .i64 0,.int .i64 0],.int .i64 0])/\Below w.heap.size w w'
    rw[hlo,show eN (some v)=.tuple #[.int .i64 (v:Int),.bool true] from rfl,hy]at CL;rw[hy];clear he hlo HZ1 HM HMV HZ hy;go_enter func58,ntmps58;go_wp2_with fail;rw[<-hO];refine CU.out.mono ?_;rintro e w1 ⟨rfl,b1⟩;go_wp2_with fail;refine (CN.out _ b1.out).mono ?_;rintro e w2 ⟨rfl,b2⟩;go_wp2_with fail;refine (CE.out _ b2.out).mono ?_;rintro e w3 ⟨rfl,b3⟩;go_wp2_with fail;refine (CL.out _ b3.out).mono ?_;rintro e w4 ⟨rfl,b4⟩;have hl3:=HL.out w4 b4.out;have HR:Hid (fA w4 w.heap.size (dU 0 ⟨#[]⟩ 0 0 0 0 0 0 0 0 0)):=dM hl3.1;have BW:Hid (Below w.heap.size w w4):=HE.out _ b4.out;obtain ⟨⟨c0,c1,c2,c3,c4,c5,c6,c7,c8,c9,c10⟩,⟨d0,d1,d2,d3,d4,d5,d6,d7,d8,d9,d10⟩,fz⟩:=hl3;go_wp2_with fail;refine bodyPost_ret (fV rfl _ _ w.heap.size _ 2 y ⟨#[]⟩ 0 0 0 0 0 0 0 0 rfl rfl (eQ HR.out 2 y ⟨#[]⟩ 0 0 0 0 0 0 0 0)) rfl ⟨rfl,fU BW.out (za _) 2 y ⟨#[]⟩ 0 0 0 0 0 0 0 0⟩
