/- Ip6Impl, HostPlain, AppAt, PartsWalk, NamesBack, Loose4Impl, Parse4Walk. -/
import Derived.Test.YtgcbaphbiaimoaaGreatDoorQF10
import Derived.Maps.AppendAt
import Derived.Sort.OwnSorted
set_option maxHeartbeats 8000000
set_option maxRecDepth 20000
namespace Go.Proofs.YtgcbaphbiaimoaaGreatDoor
open Go.Value renaming int->I,string->Y
open Go.IntKind renaming i64->J
open Go.Ending renaming returned->Z
open _root_.Go.RowKit.Below renaming refl->zr
open _root_.ByteArray renaming empty->zc
open _root_.Int renaming toNat->zd
open _root_.List renaming drop_of_length_le->zo,eq_nil_of_length_eq_zero->zh,getD_eq_getElem?_getD->zj,getElem?_eq_getElem->zf,getElem_mem->zt,length_append->zs,length_cons->zm,length_take->zl,mem_append->zp,mem_cons_of_mem->ze,mem_cons_self->za,mem_singleton->zk,size_toArray->zg
open _root_.Nat renaming le_refl->zq,le_trans->zn,pow_succ->zi
open _root_.Go.Proofs.Tryz
open _root_.Go.Proofs.YtgcbaphbiaimoaaGreatDoor.Tryz
open Go.RowKit
def lC(z:List Int):List UInt8:=if okG z=true then AB (z.map zd) (jX 0 (0,0,0) (zb z)).1 (jX 0 (0,0,0) (zb z)).2.1 else []
theorem LS{z:List Int}(h:okG z=true): ∀x∈z,0<=x/\x<=65535:=by
 unfold okG at h;rw[List.all_eq_true]at h;intro x hx;simpa using h x hx
theorem UJ(x0 x1 x2 x3 x4 x5 x6 x7:Int):DC (zb [x0,x1,x2,x3,x4,x5,x6,x7])=true:=Cr _ _ _ _ _ _ _ _
theorem UK{z:List Int}(h:DC (zb z)=true):(jX 0 (0,0,0) (zb z)).1<=(jX 0 (0,0,0) (zb z)).2.1/\(jX 0 (0,0,0) (zb z)).2.1<=8:=by
 unfold DC at h;simp only[Bool.and_eq_true,decide_eq_true_eq]at h;exact h.1
theorem DV{w:World}{B:Nat}{z:List Int}(hc: ∀k,k<8->w.cell? ⟨B,k,none⟩=some (I J (z.getD k 0)))(hz:z.length=8)(ha: ∀x∈z,0<=x/\x<=65535)(off m:Nat)(h:off+m<=8):
  DU w B off (((z.map zd).drop off).take m)/\(((z.map zd).drop off).take m).length=m/\ ∀x∈((z.map zd).drop off).take m,x<65536:=by
 have hl:(((z.map zd).drop off).take m).length=m:=by simp;omega
 refine ⟨fun j hj=> ?_,hl,fun x hx=> ?_⟩
 .rw[hl]at hj
  rw[hc (off+j) om];have h1:z[off+j]'om∈z:=zt _;have h2:=ha _ h1;simp only[zj];rw[zf om,zf om,List.getElem_take,List.getElem_drop,List.getElem_map];simp only[Option.getD_some]
  congr 2
  omega
 have h1:=List.mem_of_mem_drop (List.mem_of_mem_take hx);obtain ⟨y,hy,rfl⟩:=List.mem_map.1 h1
 have:=ha y hy
 omega
theorem len8:prog.arrayLen 24=8:=kr
theorem Fu:prog.elem 24=3:=kr
theorem R4:prog.underlying 24=some (.array (prog.arrayLen 24) (prog.elem 24)):=kr
theorem PM(B f:Nat)(hf:f<=8)(W:World):(Instr.sliceAt 24 (.pointer (some ⟨B,0,none⟩)) none (some (I J (f:Int))) (some (I J (f:Int)))).run prog W=.ok (.slice (some ⟨B,0,none⟩) f f) W:=by
 rw[run_sliceAt_array_hm (P:=prog) W 24 ⟨B,0,none⟩ R4 .i64 .i64 f f om om (by rw[len8];omega),Fu];simp[slicedAt,sizeOf3,Result.andThen,Addr.add_lit]
theorem XK(B t:Nat)(ht:t<=8)(W:World):(Instr.sliceAt 24 (.pointer (some ⟨B,0,none⟩)) (some (I J (t:Int))) none none).run prog W=.ok (.slice (some ⟨B,if 8=t then 0 else t,none⟩) (8-t) (8-t)) W:=by
 rw[run_sliceAt_array_l (P:=prog) W 24 ⟨B,0,none⟩ R4 .i64 t om (by rw[len8];omega),Fu,len8]
 by_cases h:8=t
 .subst h
  simp[slicedAt,sizeOf3,Result.andThen]
 simp[slicedAt,sizeOf3,Result.andThen,Addr.add_lit,h]
theorem PN(x0 x1 x2 x3 x4 x5 x6 x7:Int)(w:World)(hT:bK w):Calls prog 143 #[.agg #[I J x0,I J x1,I J x2,I J x3,I J x4,I J x5,I J x6,I J x7]] w fun e w'=>e=Z (Y ⟨(lC [x0,x1,x2,x3,x4,x5,x6,x7]).toArray⟩)/\Below w.heap.size w w':=by
 have CG:Hid (∀W,CB 193 #[.agg #[I J x0,I J x1,I J x2,I J x3,I J x4,I J x5,I J x6,I J x7]] W (.bool (okG [x0,x1,x2,x3,x4,x5,x6,x7]))):=fun W=>wD x0 x1 x2 x3 x4 x5 x6 x7 W
 have CR:Hid (∀W,CB 194 #[.agg #[I J x0,I J x1,I J x2,I J x3,I J x4,I J x5,I J x6,I J x7]] W (rowV (jX 0 (0,0,0) (zb [x0,x1,x2,x3,x4,x5,x6,x7])))):=fun W=>PL x0 x1 x2 x3 x4 x5 x6 x7 W
 have HT:Hid (bK w):=hT;clear hT;have hrow:=UK (UJ x0 x1 x2 x3 x4 x5 x6 x7)
 cases hok:okG [x0,x1,x2,x3,x4,x5,x6,x7]with
 |false=>
  have HL:Hid (lC [x0,x1,x2,x3,x4,x5,x6,x7]=[]):=by show _=_;unfold lC;rw[hok];rfl
  rw[hok]at CG;generalize lC [x0,x1,x2,x3,x4,x5,x6,x7]=L at HL⊢;clear hok hrow CR;go_enter func143,ntmps143;go_wp2_with fail;refine (CG.out _).mono ?_;rintro e w1 ⟨rfl,b1⟩;have B1:Below w.heap.size w w1:=((zr _ w).alloc (zq _) _).trans (b1.mono j2);clear b1;go_wp2_with fail;go_ret;exact ⟨by rw[HL.out];rfl,B1⟩
 |true=>
  have HL:Hid (lC [x0,x1,x2,x3,x4,x5,x6,x7]=AB ([x0,x1,x2,x3,x4,x5,x6,x7].map zd) (jX 0 (0,0,0) (zb [x0,x1,x2,x3,x4,x5,x6,x7])).1 (jX 0 (0,0,0) (zb [x0,x1,x2,x3,x4,x5,x6,x7])).2.1):=by show _=_;unfold lC;rw[if_pos hok]
  have HA:Hid (∀x∈[x0,x1,x2,x3,x4,x5,x6,x7],0<=x/\x<=65535):=LS hok;rw[hok]at CG;clear hok;generalize jX 0 (0,0,0) (zb [x0,x1,x2,x3,x4,x5,x6,x7])=r at HL CR hrow;obtain ⟨f,t,b⟩:=r;simp only[rowV]at HL CR hrow;obtain ⟨hr1,hr2⟩:=hrow;generalize lC [x0,x1,x2,x3,x4,x5,x6,x7]=L at HL⊢;go_enter func143,ntmps143;go_wp2_with fail;refine (CG.out _).mono ?_;rintro e w1 ⟨rfl,b1⟩;have B1:Below w.heap.size w w1:=((zr _ w).alloc (zq _) _).trans (b1.mono j2);have HC1:Hid (∀k,k<8->w1.cell? ⟨w.heap.size,k,none⟩=some (I J ([x0,x1,x2,x3,x4,x5,x6,x7].getD k 0))):=fun k hk=>cell_later b1 (Ft w x0 x1 x2 x3 x4 x5 x6 x7 k hk)
  clear b1;have a0:w1.cell? ⟨w.heap.size,0,none⟩=some (I J x0):=HC1.out 0 de;have a1:w1.cell? ⟨w.heap.size,1,none⟩=some (I J x1):=HC1.out 1 de;have a2:w1.cell? ⟨w.heap.size,2,none⟩=some (I J x2):=HC1.out 2 de;have a3:w1.cell? ⟨w.heap.size,3,none⟩=some (I J x3):=HC1.out 3 de;have a4:w1.cell? ⟨w.heap.size,4,none⟩=some (I J x4):=HC1.out 4 de;have a5:w1.cell? ⟨w.heap.size,5,none⟩=some (I J x5):=HC1.out 5 de;have a6:w1.cell? ⟨w.heap.size,6,none⟩=some (I J x6):=HC1.out 6 de;have a7:w1.cell? ⟨w.heap.size,7,none⟩=some (I J x7):=HC1.out 7 de;go_wp2_with fail;refine (CR.out _).mono ?_;rintro e w2 ⟨rfl,b2⟩;have B2:Below w.heap.size w w2:=B1.trans (b2.mono B1.size);have HC2:Hid (∀k,k<8->w2.cell? ⟨w.heap.size,k,none⟩=some (I J ([x0,x1,x2,x3,x4,x5,x6,x7].getD k 0))):=fun k hk=>cell_later b2 (HC1.out k hk)
  have HT2:Hid (bK w2):=aT HT.out B2;clear a0 a1 a2 a3 a4 a5 a6 a7 b2 B1 HC1 CG CR
  by_cases h2:(t:Int)-f<2
  .obtain ⟨g1,g2,g3⟩:=DV HC2.out rfl HA.out 0 8 de
   have CT:=gH w.heap.size 0 8 _ w2 om g3 g1 HT2.out;rw[g2]at CT;have CT:Hid (CB 195 #[.slice (some ⟨w.heap.size,0,none⟩) 8 8] w2 (Y ⟨L.toArray⟩)):=by
    rw[HL.out];unfold AB;rw[if_pos om];exact CT
   clear g1 g2 g3 HL;go_wp2_with fail;refine CT.out.mono ?_;rintro e w3 ⟨rfl,b3⟩;have B3:=B2.trans (b3.mono B2.size);clear b3;go_wp2_with fail;go_ret;exact ⟨rfl,B3⟩
  obtain ⟨g1,g2,g3⟩:=DV HC2.out rfl HA.out 0 f om;have CT1:=gH w.heap.size 0 f _ w2 om g3 g1 HT2.out;rw[g2,List.drop_zero]at CT1;clear CT1;have CT1:Hid (∀W,Below w2.heap.size w2 W->CB 195 #[.slice (some ⟨w.heap.size,0,none⟩) f f] W (Y ⟨(gtL (([x0,x1,x2,x3,x4,x5,x6,x7].map zd).take f)).toArray⟩)):=fun W hb=>by
   have h:=gH w.heap.size 0 f _ W om g3 (g1.later hb) (aT HT2.out hb);rw[g2,List.drop_zero]at h;exact h
  have CT2:Hid (∀W,Below w2.heap.size w2 W->CB 195 #[.slice (some ⟨w.heap.size,if 8=t then 0 else t,none⟩) (8-t) (8-t)] W (Y ⟨(gtL (([x0,x1,x2,x3,x4,x5,x6,x7].map zd).drop t)).toArray⟩)):=fun W hb=>by
   obtain ⟨k1,k2,k3⟩:=DV HC2.out rfl HA.out t (8-t) om;have k4:DU w2 w.heap.size (if 8=t then 0 else t) ((([x0,x1,x2,x3,x4,x5,x6,x7].map zd).drop t).take (8-t)):=by
    by_cases h8:8=t
    .intro j hj
     rw[k2]at hj;omega
    rw[if_neg h8];exact k1
   have h:=gH w.heap.size (if 8=t then 0 else t) (8-t) _ W om k3 (k4.later hb) (aT HT2.out hb);rw[k2,List.take_of_length_le j2]at h;exact h
  have HLL:Hid (L=gtL (([x0,x1,x2,x3,x4,x5,x6,x7].map zd).take f)++58::58::gtL (([x0,x1,x2,x3,x4,x5,x6,x7].map zd).drop t)):=by
   show _=_;rw[HL.out];unfold AB;rw[if_neg om]
  clear g1 g2 g3 HL;have s1:=(uI (([x0,x1,x2,x3,x4,x5,x6,x7].map zd).take f)).1;have s2:=(uI (([x0,x1,x2,x3,x4,x5,x6,x7].map zd).drop t)).1;rw[zl]at s1;rw[List.length_drop]at s2;have h8:([x0,x1,x2,x3,x4,x5,x6,x7].map zd).length=8:=rfl;rw[h8]at s1 s2;clear h8;generalize gtL (([x0,x1,x2,x3,x4,x5,x6,x7].map zd).take f)=L1 at CT1 HLL s1;generalize gtL (([x0,x1,x2,x3,x4,x5,x6,x7].map zd).drop t)=L2 at CT2 HLL s2;have z1:(⟨L1.toArray⟩:ByteArray).size<=100:=by show L1.toArray.size<=100;rw[zg];omega
  have z2:(⟨L2.toArray⟩:ByteArray).size<=100:=by show L2.toArray.size<=100;rw[zg];omega
  have HLT:Hid ((⟨L.toArray⟩:ByteArray)=⟨L1.toArray⟩++⟨#[58,58]⟩++⟨L2.toArray⟩):=by
   show _=_;rw[HLL.out,show (⟨#[58,58]⟩:ByteArray)=⟨[58,58].toArray⟩ from rfl,GY,GY];simp
  generalize (⟨L1.toArray⟩:ByteArray)=T1 at CT1 HLT z1;generalize (⟨L2.toArray⟩:ByteArray)=T2 at CT2 HLT z2;clear HLL s1 s2;have z0:(⟨#[58,58]⟩:ByteArray).size=2:=rfl;have CT1d:Hid (Calls prog 195 #[.slice (some ⟨w.heap.size,0,none⟩) f f] w2.drew fun e w'=>e=Z (Y T1)/\Below w2.heap.size w2 w'):=(CT1.out w2.drew (Below.drew (zr _ w2))).mono fun e w' h=>⟨h.1,(Below.drew (zr _ w2)).trans h.2⟩
  have sl1:=PM w.heap.size f om;have sl2:=XK w.heap.size t hr2;generalize (if 8=t then 0 else t)=o2 at sl2 CT2;go_wp2_with fail
  go_region_with (go_at_call 195;first|(with_reducible refine CT1d.out.mono ?_;rintro e w3 ⟨rfl,k3⟩)|(with_reducible refine (CT2.out _ k3).mono ?_;rintro e w4 ⟨rfl,b4⟩))
  all_goals
   go_wp2_with fail;go_ret;exact ⟨by rw[HLT.out];rfl,(B2.trans (k3.mono B2.size)).trans (b4.mono (zn B2.size k3.size))⟩
structure HV where
 k:Int
 s:ByteArray
 n:Int
 z:List Int
def jF:List Int:=[0,0,0,0,0,0,0,0]
def hOk(h:HV):Bool:=
 if h.k=1 then decide (cV h.s=some h.s.data.toList)&& !qO h.s&&decide (h.n=0)&&decide (h.z=jF)
 else if h.k=2 then decide (h.s.size=0)&&decide (0<=h.n/\h.n<4294967296)&&decide (h.z=jF)
 else if h.k=3 then decide (h.s.size=0)&&decide (h.n=0)&&okG h.z
 else false
def hTx(h:HV):ByteArray:=if hOk h=true then (if h.k=1 then h.s else if h.k=2 then gP h.n else ⟨(91::(lC h.z++[93])).toArray⟩)else ⟨#[]⟩
structure lO where
 t:Nat
 c:Int
 l:List UInt8
 n:Nat
 g:List Nat
def lO.bad(c:Int):lO:=⟨0,c,[],0,[]⟩
def lO.nm(l:List UInt8):lO:=⟨1,0,l,0,[]⟩
def lO.fo(n:Nat):lO:=⟨2,0,[],n,[]⟩
def lO.si(g:List Nat):lO:=⟨3,0,[],0,g⟩
def unB(s:ByteArray):ByteArray:=⟨(unL s.data.toList).toArray⟩
def iQ(n:List UInt8):lO:=if qO ⟨n.toArray⟩=true then (match loA ⟨n.toArray⟩with
 |none=> .bad 4
 |some v=> .fo v)else .nm n
def fX(s:ByteArray):lO:=match cV (unB s)with
 |none=> .bad 3
 |some n=>iQ n
def IX(r:Option (List Nat)):lO:=match r with
 |none=> .bad 2
 |some g=> .si g
def gI(r:List UInt8):lO:=if r.getLast? =some 93 then IX (dQ r.dropLast)else .bad 2
def aO(s:ByteArray):lO:=match s.data.toList with
 |[]=> .bad 1
 |c::r=>if c=91 then gI r else fX s
def rV(r:lO):HV:=match r.t with
 |0=>⟨0,⟨#[]⟩,0,jF⟩
 |1=>⟨1,⟨r.l.toArray⟩,0,jF⟩
 |2=>⟨2,⟨#[]⟩,r.n,jF⟩
 |_=>⟨3,⟨#[]⟩,0,r.g.map fun (x:Nat)=>(x:Int)⟩
def rC(r:lO):Int:=r.c
theorem IY{s:ByteArray}(h:s.size=0):aO s=.bad 1:=by
 have e:s.data.toList=[]:=zh (by simpa using h);unfold aO;rw[e]
theorem IZ{s:ByteArray}(h:0<s.size)(h0:s[0].toNat=91):aO s=gI (s.extract 1 s.size).data.toList:=by
 have e:=lW s h;unfold aO;rw[e];simp only;rw[if_pos (lN h0)]
theorem uL{s:ByteArray}(h:0<s.size)(h0: ¬s[0].toNat=91):aO s=fX s:=by
 have e:=lW s h;unfold aO;rw[e];simp only;rw[if_neg (K9 h0)]
theorem PO(s:ByteArray):(unB s).size<=s.size:=by
 unfold unB;show (unL s.data.toList).toArray.size<=s.size;rw[zg]
 have:=Gi s.data.toList
 simpa using this
theorem wE(s:ByteArray):(⟨s.data.toList.toArray⟩:ByteArray)=s:=by
 apply bX;simp[toL]
theorem wF{s:ByteArray}{n:List UInt8}(h:cV s=some n):n.length<=253:=by
 unfold cV jE at h;split at h
 .split at h
  .cases h;assumption
  cases h
 cases h
def AD(s:ByteArray):Bool:=decide (cV s=some s.data.toList)&& !qO s
theorem eB{P:Program}(wr:World){ops:Array Oper}{rest:List Oper}{o:Oper}{a:Act}{Q:Exit->Act->World->Prop}
  (hg:o.guard=none) (s x:Operand) (t:TypeId) (hop:o.op=.call {callee:=.builtin .append,args:= #[s,x],argTypes:= #[t,t]})
  (B:Nat) (e:TypeId) (z:Value) (bytes:Nat) (ht:P.underlying t=some (.slice e)) (hinfo:(P.info? e).map (fun i=>(i.zero,i.size,i.bytes))=some (some z,1,bytes)) (hz:z.cells.size=1)
  (v:Value) (n:Nat) (xs:List Value) (hs:a.eval s=v) (hown:wr.ownsRow B e 1 v n xs)
  (cs:Array Value) (m:Nat) (hm:cs.size=m) (hx:a.eval x=.slice (some ⟨wr.heap.size,0,none⟩) m m) (h1: ∀u∈cs.toList,u.oneCell'=true)
  (hroom:(n+m)*bytes<=140737488355328) (hroom':n+m<=maxLen) (hB:B<=wr.heap.size)
  (hK: ∀v' w1,w1.ownsRow B e 1 v' (n+m) (xs++cs.toList)->wr.grownBy w1 v.ownBlock->(v'.ownBlock=v.ownBlock∨v'.ownBlock=some (wr.heap.size+1))->wpList P ops Q rest (a.put o.dst v') w1):
  wpList P ops Q (o::rest) a (wr.alloc (.cells cs e)):=by
 obtain ⟨i0,hi,hz0,hz1,hz2⟩:=info_parts hinfo;refine wpList_append_own_at (wr.alloc (.cells cs e)) hg s x t hop B e i0 z 1 bytes ht hi hz0 hz1 hz2 hz de v n xs hs (hown.alloc _) ⟨wr.heap.size,0,none⟩ m m cs.toList hx (by simp[hm]) ?_ h1 hroom' hroom (by simp;omega) ?_
 .intro j u hj
  rw[Addr.add_lit,Nat.zero_add];rw[World.cell?_alloc_at _ _ _ _ rfl];simpa using hj
 intro v' w1 h1 h2 _ h4;refine hK v' w1 h1 ⟨h2.os,h2.tape,h2.output,?_,fun k hk hne=>(h2.block k (by simp;omega) hne).trans (Below.heap_alloc wr _ k hk)⟩ (by simpa using h4)
 have:=h2.size
 simp at this;omega
theorem R5{w:World}{B B':Nat}{e:TypeId}{size:Nat}{v:Value}{n:Nat}{xs:List Value}(h:w.ownsRow B e size v n xs)(hb:B'<=B):w.ownsRow B' e size v n xs:=
 ⟨h.1,h.2.imp id fun ⟨g,cap,cur,h1,h2,h3⟩=>⟨g,cap,cur,h1,zn hb h2,h3⟩⟩
def R6(s:ByteArray):List ByteArray:=if s.size=0 then []else (aA s 46).reverse
theorem zJ(s:ByteArray)(b:Int):0<(aA s b).length:=by simp[aA]
def wG(l:List UInt8):Prop:= ∀c∈l,c≠46
theorem LT: ∀{a b r q:List UInt8},wG a->wG b->(r=[]∨ ∃t,r=46::t)->(q=[]∨ ∃t,q=46::t)->a++r=b++q->a=b/\r=q
 |[],[],r,q,_,_,_,_,h=>⟨rfl,h⟩
 |[],y::b,r,q,_,hb,hr,_,h=>by
  exfalso
  rcases hr with rfl|⟨t,rfl⟩
  .simp at h
  simp at h;exact hb y za h.1.symm
 |x::a,[],r,q,ha,_,_,hq,h=>by
  exfalso
  rcases hq with rfl|⟨t,rfl⟩
  .simp at h
  simp at h;exact ha x za h.1
 |x::a,y::b,r,q,ha,hb,hr,hq,h=>by
  simp only[List.cons_append,List.cons.injEq]at h;obtain ⟨h1,h2⟩:=LT (fun c hc=>ha c (ze _ hc)) (fun c hc=>hb c (ze _ hc)) hr hq h.2;exact ⟨by rw[h.1,h1],h2⟩
theorem AU(x y:ByteArray)(r:List ByteArray):jn 46 (x::y::r)=x.data.toList++46::jn 46 (y::r):=by
 simp[jn]
theorem rW{x y:ByteArray}(h:x.data.toList=y.data.toList):x=y:=by
 apply ByteArray.ext;exact Array.toList_inj.1 h
theorem R7: ∀{xs ys:List ByteArray},xs≠[]->ys≠[]->(∀x∈xs,wG x.data.toList)->(∀y∈ys,wG y.data.toList)->jn 46 xs=jn 46 ys->xs=ys
 |[],_,h,_,_,_,_=>absurd rfl h
 |_::_,[],_,h,_,_,_=>absurd rfl h
 |[x],[y],_,_,_,_,h=>by
  simp only[jn,List.flatMap_nil,List.append_nil]at h;rw[rW h]
 |[x],y::z::r,_,_,hx,hy,h=>by
  exfalso
  rw[AU]at h;have h':x.data.toList++[]=y.data.toList++46::jn 46 (z::r):=by rw[<-h];simp[jn]
  obtain ⟨_,h2⟩:=LT (hx x za) (hy y za) (.inl rfl) (.inr ⟨_,rfl⟩) h'
  cases h2
 |x::z::r,[y],_,_,hx,hy,h=>by
  exfalso
  rw[AU]at h;have h':x.data.toList++46::jn 46 (z::r)=y.data.toList++[]:=by rw[h];simp[jn]
  obtain ⟨_,h2⟩:=LT (hx x za) (hy y za) (.inr ⟨_,rfl⟩) (.inl rfl) h'
  cases h2
 |x::z::r,y::u::q,_,_,hx,hy,h=>by
  rw[AU,AU]at h;obtain ⟨h1,h2⟩:=LT (hx x za) (hy y za) (.inr ⟨_,rfl⟩) (.inr ⟨_,rfl⟩) h;have h3:jn 46 (z::r)=jn 46 (u::q):=by simpa using h2
  have h4:=R7 j2 j2 (fun a ha=>hx a (ze _ ha)) (fun a ha=>hy a (ze _ ha)) h3;rw[rW h1,h4]
theorem wH(s:ByteArray): ∀k,k<=s.size->(aI s 46 k).2<=k/\(∀x∈(aI s 46 k).1,wG x.data.toList)/\wG ((s.data.toList.take k).drop (aI s 46 k).2)
 |0,_=>by simp[aI,wG]
 |k+1,hk=>by
  obtain ⟨h0,h1,h2⟩:=wH s k om
  by_cases e:(s[k].toNat:Int)=46
  .rw[gN s 46 k om e]
   refine ⟨zq _,fun x hx=> ?_,?_⟩
   .rcases zp.1 hx with h|h
    .exact h1 x h
    rw[zk.1 h,aZ];exact h2
   simp only;rw[zo (by rw[zl];omega)];intro c hc;simp at hc
  rw[fD s 46 k om e];refine ⟨om,h1,?_⟩;rw[eI s k om,List.drop_append_of_le_length (by rw[zl];simp;omega)];intro c hc
  rcases zp.1 hc with h|h
  .exact h2 c h
  rw[zk.1 h];intro h3;apply e;rw[h3];rfl
theorem GF(s:ByteArray): ∀x∈aA s 46,wG x.data.toList:=by
 obtain ⟨_,h1,h2⟩:=wH s s.size (zq _);intro x hx;unfold aA at hx
 rcases zp.1 hx with h|h
 .exact h1 x h
 rw[zk.1 h,aZ];exact h2
theorem C4{l:List UInt8}(h:dX l=true):wG l:=fun c hc he=>by
 have:=kB ((dC h).2.2.2.2 c hc)
 rw[he]at this
 revert this
 decide
theorem JB{ls:List ByteArray}(hne:ls≠[])(h: ∀a∈ls,dX a.data.toList=true):aA ⟨(jn 46 ls).toArray⟩ 46=ls:=by
 refine R7 (by intro h0;have:=zJ ⟨(jn 46 ls).toArray⟩ 46;rw[h0]at this;simp at this) hne (GF _) (fun x hx=>C4 (h x hx)) ?_;exact vK ⟨(jn 46 ls).toArray⟩ 46 de de
theorem DW{ls:List ByteArray}(h: ∀a∈ls,dX a.data.toList=true):dP ls=ls:=by
 unfold dP;refine if_neg fun hh=> ?_
 have hl:ls.length-1<ls.length:=om;have hm:ls.getD (ls.length-1) zc∈ls:=by
  rw[zj,zf hl];exact zt hl
 have:=(dC (h _ hm)).1
 have e:(ls.getD (ls.length-1) zc).data.toList.length=(ls.getD (ls.length-1) zc).size:=by simp
 omega
theorem sV{s:ByteArray}{n:List UInt8}(h:cV s=some n): ∃ls:List ByteArray,ls≠[]/\ls.length<=253/\n.length<=253/\(∀a∈ls,dX a.data.toList=true/\a.size<=63)/\n=jn 46 ls/\
  cV ⟨n.toArray⟩=some n/\R6 ⟨n.toArray⟩=ls.reverse/\0<n.length:=by
 unfold cV at h;have hp:=xV (zJ s 46);generalize dP (aA s 46)=fs at h hp;unfold jE at h
 cases hr:eK fs with
 |none=>rw[hr]at h;cases h
 |some ls=>
  rw[hr]at h;simp only at h;split at h
  .rename_i hle
   cases h
   have hl:=nI hr;have hne:ls≠[]:=by intro h0;rw[h0]at hl;simp at hl;omega
   have hlab:=IU hr;have hlab1: ∀a∈ls,dX a.data.toList=true:=fun a ha=>(hlab a ha).1
   have hf:=JB hne hlab1;have hpos:0<(jn 46 ls).length/\ls.length<=(jn 46 ls).length:=by
    have key: ∀ms:List ByteArray,ms.length<=(ms.flatMap fun y=>(46:UInt8)::y.data.toList).length:=by
     intro ms
     induction ms with
     |nil=>simp
     |cons m ms ih=>rw[List.flatMap_cons,zs,zm,zm];omega
    match ls,hne,hlab1 with
    |x::xs,_,h1=>
     have h2:=(dC (h1 x za)).1;have h3:=key xs;unfold jn;rw[zs,zm];omega
   refine ⟨ls,hne,om,hle,fun a ha=>⟨hlab1 a ha,IV hlab a ha⟩,rfl,?_,?_,hpos.1⟩
   .unfold cV
    rw[hf,DW hlab1];exact kC (yG fun a ha=>(hlab a ha).2) hle
   unfold R6;rw[hf,if_neg];show ¬(jn 46 ls).toArray.size=0;rw[zg];omega
  cases h
theorem wI(s:ByteArray)(w:World)(hs:s.size<=1048576):Calls prog 268 #[Y s] w fun e w'=>e=Z (eN (loA s))/\Below w.heap.size w w':=by
 have CF:Hid (Calls prog 135 #[Y s,.int .u8 46] w fun e w'=> ∃v,e=Z v/\w'.ownsRow w.heap.size 9 1 v (aA s 46).length (aM (aA s 46))/\Below w.heap.size w w'):=uD s 46 w hs;have hpos:0<(aA s 46).length:=by simp[aA]
 have hlen:(aA s 46).length<=1048577:=by
  have:=(dL s 46 s.size).2
  simp[aA];omega
 have HSZ:Hid (∀x∈dP (aA s 46),x.size<=1048576):=zG (gE s hs);have HNM:Hid (loA s=lo4 ((dP (aA s 46)).map toL)):=rfl;have hp2:=xV hpos;have hl2:(dP (aA s 46)).length<=1048577:=zn (NW _) hlen;have CW:Hid (∀(W:World) (v:Value) (B:Nat),W.ownsRow B 9 1 v (aA s 46).length (aM (aA s 46))->Calls prog 280 #[v] W fun e w'=> ∃v',e=Z v'/\W.ownsRow B 9 1 v' (dP (aA s 46)).length (aM (dP (aA s 46)))/\W=w'):=
  fun W v B h=>zH _ B v W hpos hlen h
 generalize dP (aA s 46)=fs at CW HSZ HNM hp2 hl2
 by_cases h5:4<fs.length
 .have HZ:Hid (loA s=none):=by
   show _=_;rw[HNM.out,XA h5]
  have h5':4<(fs.length:Int):=om;clear h5;go_enter func268,ntmps268;go_wp2_with fail;refine CF.out.mono ?_;rintro e wa ⟨va,rfl,oa,ba⟩;go_wp2_with fail;refine (CW.out _ _ _ oa).mono ?_;rintro e wb ⟨vb,rfl,ob,rfl⟩;clear oa CW CF hpos hlen
  rcases aQ ob with ⟨h,_⟩|⟨_,g,cap,rfl⟩
  .omega
  go_wp2_with fail;go_ret2;exact ⟨by rw[HZ.out];rfl,ba⟩
 have HF:Hid (loA s=loF 0 4294967296 (fs.map toL)):=by
  show _=_;rw[HNM.out,NZ om]
 have h5': ¬4<(fs.length:Int):=om;go_enter func268,ntmps268;go_wp2_with fail;refine CF.out.mono ?_;rintro e wa ⟨va,rfl,oa,ba⟩;go_wp2_with fail;refine (CW.out _ _ _ oa).mono ?_;rintro e wb ⟨vb,rfl,ob,rfl⟩;clear oa CW CF hpos hlen
 rcases aQ ob with ⟨h,_⟩|⟨_,g,cap,rfl⟩
 .omega
 have hcap:=lV ob;have hi:((fs.length:Int)-1)=((fs.length-1:Nat):Int):=om;obtain ⟨m,hm⟩: ∃m,fs.length-1=m:=⟨_,rfl⟩;rw[hm]at hi;have HM:Hid (fs.length=m+1):=by show _=_;omega
 clear hm;go_wp2_with fail
 go_loop[5,6,27] (fun x r i=> ∃(k n ρ:Nat) (a b:Int),k<=m/\i=I J k/\x=I J a/\r=I J b/\ρ=4294967296/256^k/\b=(ρ:Int)/\a=((n*ρ:Nat):Int)/\n<256^k/\loF n ρ ((fs.drop k).map toL)=loF 0 4294967296 (fs.map toL)) (fun _ _ i=>m-(intOf i).toNat)
 case atStart=>exact ⟨0,0,4294967296,0,4294967296,Nat.zero_le _,rfl,rfl,rfl,de,rfl,rfl,de,rfl⟩
 obtain ⟨k,n,ρ,a,b,hk,rfl,rfl,rfl,hρ,hb,ha,hn,hf⟩:=hrel;have HR:Hid (loF n ρ ((fs.drop k).map toL)=loF 0 4294967296 (fs.map toL)):=hf;have HA:Hid (a=((n*ρ:Nat):Int)):=ha;have HP:Hid (ρ=4294967296/256^k):=hρ;have HB:Hid (b=(ρ:Int)):=hb;have HN:Hid (n<256^k):=hn;have hρ1:ρ<=4294967296:=by rw[hρ];exact Nat.div_le_self _ _
 have hab:n*ρ<=4294967296:=by
  rw[hρ];exact zn (Nat.mul_le_mul_right _ (Nat.le_of_lt hn)) (Nat.mul_div_le _ _)
 have hb0:0<=b:=om;have hb1:b<=4294967296:=om;have ha0:0<=a:=om;have ha1:a<=4294967296:=om;have HKM:Hid (k<=m):=hk;clear hf ha hρ hb hn hρ1 hab;have hc:=bY ob k (by have:=HM.out;omega);have hsy:=HSZ.out _ (nA (k:=k) (by have:=HM.out;omega));have CT:Hid (∀W,CS 284 #[Y (fs.getD k zc)] W (eN (bZ (toL (fs.getD k zc))))):=fun W=>ZM _ W hsy
 clear hsy
 by_cases hlt:k<m
 .have HS:Hid (_=_):=AN fs k n ρ (by have:=HM.out;omega)
  generalize fs.getD k zc=y at hc CT HS;have hki:(k:Int)<(m:Int):=om
  cases hv:bZ (toL y)with
  |none=>
   rw[hv]at CT HS;have HZ:Hid (loA s=none):=by
    show _=_;rw[HF.out,<-HR.out,HS.out]
   clear hv;go_wp2_with fail;refine (CT.out _).mono ?_;rintro e w' ⟨rfl,rfl⟩;simp only[eN];go_wp2_with fail;go_ret2;exact ⟨by rw[HZ.out];rfl,ba⟩
  |some v=>
   rw[hv]at CT HS;clear hv;obtain ⟨x,hx⟩: ∃x:Int,(v:Int)=x:=⟨_,rfl⟩;have HX:Hid ((v:Int)=x):=hx
   by_cases hvr:v<256
   .have HG:Hid (loF (n*256+v) (ρ/256) ((fs.drop (k+1)).map toL)=loF 0 4294967296 (fs.map toL)):=by
     show _=_;rw[<-HR.out,HS.out];exact (if_pos hvr).symm
    have hx1: ¬256<=x:=om;have hx0:0<=x:=om;obtain ⟨b',hb'⟩: ∃b':Int,b/256=b':=⟨_,rfl⟩;have HB':Hid (b/256=b'):=hb';have hb'0:0<=b':=om;have hb'1:b'<=16777216:=om;obtain ⟨p,hp⟩: ∃p:Int,x*b'=p:=⟨_,rfl⟩;have HPP:Hid (x*b'=p):=hp;have hp0:0<=p:=by rw[<-hp];exact Int.mul_nonneg hx0 hb'0
    have hp1:p<=4294967296:=by
     rw[<-hp];have h1:x*b'<=256*b':=Int.mul_le_mul_of_nonneg_right om hb'0;omega
    have HV:Hid (v<256):=hvr;clear hvr hx;go_wp2_with fail;refine (CT.out _).mono ?_;rintro e w' ⟨rfl,rfl⟩;simp only[eN];rw[HX.out];go_wp2_with fail;go_round
    case rel=>
     have h1:=HN.out;have h2:=HV.out;have h3:=HB.out;have h4:=HB'.out;have h5:b'=((ρ/256:Nat):Int):=by rw[<-h4,h3];omega
     have h6:256*(ρ/256)=ρ:=by
      rw[HP.out];obtain ⟨j,hj⟩: ∃j,k+1+j=4:=⟨4-(k+1),by have:=HM.out;omega⟩;have h7:4294967296=256^k*(256^j*256):=by
       rw[<-zi,<-Nat.pow_add,show k+(j+1)=4 by omega]
      rw[h7,Nat.mul_div_cancel_left _ (Nat.pow_pos de),Nat.mul_div_cancel _ de,Nat.mul_comm]
     refine ⟨k+1,n*256+v,ρ/256,a+p,b',om,gn,gn,gn,?_,h5,?_,?_,HG.out⟩
     .rw[HP.out,zi,<-Nat.div_div_eq_div_mul]
     .rw[HA.out,<-HPP.out,<-HX.out,h5,Nat.add_mul,Nat.mul_assoc,h6,<-Int.natCast_mul,<-Int.natCast_add]
     rw[zi];omega
    case measure=>exact j1
   have HZ:Hid (loA s=none):=by
    show _=_;rw[HF.out,<-HR.out,HS.out];exact if_neg hvr
   have hx1:256<=x:=om;clear hvr hx;go_wp2_with fail;refine (CT.out _).mono ?_;rintro e w' ⟨rfl,rfl⟩;simp only[eN];rw[HX.out];go_wp2_with fail;go_ret2;exact ⟨by rw[HZ.out];rfl,ba⟩
 have HS:Hid (_=_):=vN fs k n ρ (by have:=HM.out;omega);generalize fs.getD k zc=y at hc CT HS
 obtain rfl:k=m:=om
 have hki: ¬(k:Int)<(k:Int):=om
 cases hv:bZ (toL y)with
 |none=>
  rw[hv]at CT HS;have HZ:Hid (loA s=none):=by
   show _=_;rw[HF.out,<-HR.out,HS.out]
  clear hv hlt hki;go_wp2_with fail;refine (CT.out _).mono ?_;rintro e w' ⟨rfl,rfl⟩;simp only[eN];go_wp2_with fail;go_ret2;exact ⟨by rw[HZ.out];rfl,ba⟩
 |some v=>
  rw[hv]at CT HS;clear hv hlt hki;obtain ⟨x,hx⟩: ∃x:Int,(v:Int)=x:=⟨_,rfl⟩;have HX:Hid ((v:Int)=x):=hx
  by_cases hvr:v<ρ
  .have HZ:Hid (loA s=some (n*ρ+v)):=by
    show _=_;rw[HF.out,<-HR.out,HS.out];exact if_pos hvr
   have hx1: ¬b<=x:=by have:=HB.out;omega
   have hx0:0<=x:=om;clear hvr hx;go_wp2_with fail;refine (CT.out _).mono ?_;rintro e w' ⟨rfl,rfl⟩;simp only[eN];rw[HX.out];go_wp2_with fail;go_ret2;exact ⟨by rw[HZ.out];have h1:=HA.out;have h2:=HX.out;simp[eN];rw[h1,<-h2];simp,ba⟩
  have HZ:Hid (loA s=none):=by
   show _=_;rw[HF.out,<-HR.out,HS.out];exact if_neg hvr
  have hx1:b<=x:=by have:=HB.out;omega
  clear hvr hx;go_wp2_with fail;refine (CT.out _).mono ?_;rintro e w' ⟨rfl,rfl⟩;simp only[eN];rw[HX.out];go_wp2_with fail;go_ret2;exact ⟨by rw[HZ.out];rfl,ba⟩
theorem Gu(fs:List ByteArray)(k n:Nat)(h: ¬k<fs.length):stF n ((fs.drop k).map toL)=some n:=by
 rw[zo om];rfl
theorem De(fs:List ByteArray)(k n:Nat)(h:k<fs.length):stF n ((fs.drop k).map toL)=match vG (toL (fs.getD k zc))with
  |none=>none
  |some v=>stF (n*256+v) ((fs.drop (k+1)).map toL):=by
 rw[jW fs k h];rfl
theorem R8{y:ByteArray}(h:y.size=0):vG (toL y)=none:=by
 have:toL y=[]:=zh (by simpa[toL] using h)
 rw[this];rfl
theorem Df{y:ByteArray}(h:0<y.size):vG (toL y)=match cU 10 3 (toL y)with
  |none=>none
  |some v=>if 255<v∨1<y.size/\y[0].toNat=48 then none else some v:=by
 have e:=lW y h;unfold vG;rw[show (toL y).isEmpty=false by unfold toL;rw[e];rfl];simp only[Bool.false_eq_true,if_false]
 cases cU 10 3 (toL y)with
 |none=>rfl
 |some v=>
  simp only;have e1:(1<(toL y).length/\(toL y).head? =some 48)↔(1<y.size/\y[0].toNat=48):=by
   have e2:(toL y).head? =some y[0]:=by unfold toL;rw[e];rfl
   have e3:(toL y).length=y.size:=by simp[toL]
   rw[e2,e3];constructor
   .rintro ⟨a,b⟩
    exact ⟨a,by injection b with b;rw[b];rfl⟩
   rintro ⟨a,b⟩;exact ⟨a,by rw[lN (d:=48) b]⟩
  simp only[e1]
theorem LU(s:ByteArray)(w:World)(hs:s.size<=1048576):Calls prog 219 #[Y s] w fun e w'=>e=Z (eN (p4 s.data.toList))/\Below w.heap.size w w':=by
 have CF:Hid (Calls prog 93 #[Y s,.int .u8 46] w fun e w'=> ∃v,e=Z v/\w'.ownsRow w.heap.size 9 1 v (aA s 46).length (aM (aA s 46))/\Below w.heap.size w w'):=mX s 46 w hs;have hpos:0<(aA s 46).length:=by simp[aA]
 have hlen:(aA s 46).length<=1048577:=by
  have:=(dL s 46 s.size).2
  simp[aA];omega
 have HSZ:Hid (∀x∈aA s 46,x.size<=1048576):=gE s hs;have HP:Hid (p4 s.data.toList=if (aA s 46).length=4 then stF 0 ((aA s 46).map toL)else none):=by
  show _=_;unfold p4;rw[<-uG,List.length_map]
 generalize aA s 46=fs at CF hpos hlen HSZ HP
 by_cases h4:fs.length=4
 .have HF:Hid (p4 s.data.toList=stF 0 (fs.map toL)):=by
   show _=_;rw[HP.out,if_pos h4]
  have HM:Hid (fs.length=4):=h4;go_enter func219,ntmps219;go_wp2_with fail;refine CF.out.mono ?_;rintro e wa ⟨va,rfl,OV,ba⟩
  rcases aQ OV with ⟨h,_⟩|⟨_,g,cap,rfl⟩
  .omega
  rw[h4]at OV⊢;clear h4 hpos hlen CF HP;go_wp2_with fail
  go_loop[5,6] (fun x i=> ∃(k n:Nat) (a:Int),k<=4/\i=I J k/\x=I J a/\a=(n:Int)/\n<256^k/\stF n ((fs.drop k).map toL)=stF 0 (fs.map toL)) (fun _ i=>4-(intOf i).toNat)
  case atStart=>exact ⟨0,0,0,om,rfl,rfl,rfl,de,rfl⟩
  obtain ⟨k,n,a,hk,rfl,rfl,ha,hn,hf⟩:=hrel;have HR:Hid (stF n ((fs.drop k).map toL)=stF 0 (fs.map toL)):=hf;have HN:Hid (n<256^k):=hn;have HA:Hid (a=(n:Int)):=ha;clear hf
  by_cases hlt:k<4
  .have hn2:n<16777216:=Nat.lt_of_lt_of_le hn (BU om)
   have ha0:0<=a:=om;have ha1:a<16777216:=om;clear hn hn2 ha;have hc:=bY OV k om;have hsy:=HSZ.out _ (nA (k:=k) (by have:=HM.out;omega));have HS:Hid (_=_):=De fs k n (by have:=HM.out;omega);have CN:Hid (∀W,CS 57 #[Y (fs.getD k zc),I J 10,I J 3] W (I J (eM (cU 10 3 (toL (fs.getD k zc)))))):=fun W=>kW _ 10 3 W om om
   generalize fs.getD k zc=y at hc hsy HS CN;have hki:(k:Int)<4:=om
   by_cases he:y.size=0
   .have HZ:Hid (p4 s.data.toList=none):=by
     show _=_;rw[HF.out,<-HR.out,HS.out,R8 he]
    have hem:=aV he;clear he;generalize eM (cU 10 3 (toL y))=z at CN;go_wp2_with fail;refine (CN.out _).mono ?_;rintro e w' ⟨rfl,rfl⟩;go_wp2_with fail;go_ret2;exact ⟨by rw[HZ.out];rfl,ba⟩
   have hpy:0<y.size:=om;have hem:=aX hpy;have HS1:Hid (_=_):=Df hpy;clear he
   cases hv:cU 10 3 (toL y)with
   |none=>
    rw[hv]at CN HS1;have HZ:Hid (p4 s.data.toList=none):=by
     show _=_;rw[HF.out,<-HR.out,HS.out,HS1.out]
    clear hv;go_wp2_with fail;refine (CN.out _).mono ?_;rintro e w' ⟨rfl,rfl⟩;simp only[eM];go_wp2_with fail;refine j5 (aN _ _ _ _ om) ?_;go_wp2_with fail;go_ret2;exact ⟨by rw[HZ.out];rfl,ba⟩
   |some v=>
    rw[hv]at CN HS1;clear hv;obtain ⟨x,hx⟩: ∃x:Int,(v:Int)=x:=⟨_,rfl⟩;have HX:Hid ((v:Int)=x):=hx;have hx0:0<=x:=om
    by_cases hvr:255<v
    .have HZ:Hid (p4 s.data.toList=none):=by
      show _=_;rw[HF.out,<-HR.out,HS.out,HS1.out];simp only;rw[if_pos (.inl hvr)]
     have hx1:255<x:=om;clear hvr hx;go_wp2_with fail;refine (CN.out _).mono ?_;rintro e w' ⟨rfl,rfl⟩;simp only[eM];rw[HX.out];go_wp2_with fail;refine j5 (aN _ _ _ _ om) ?_;go_wp2_with fail;go_ret2;exact ⟨by rw[HZ.out];rfl,ba⟩
    have hx1:x<=255:=om;have hx2:v<256:=om;have HV:Hid (v<256):=hx2;obtain ⟨d,hd⟩: ∃d:Nat,y[0].toNat=d:=⟨_,rfl⟩
    by_cases hq:1<y.size/\d=48
    .have HZ:Hid (p4 s.data.toList=none):=by
      show _=_;rw[HF.out,<-HR.out,HS.out,HS1.out];simp only;rw[if_pos (.inr ⟨hq.1,hd.trans hq.2⟩)]
     obtain ⟨hq1,rfl⟩:=hq;have hq1':1<(y.size:Int):=om;clear hvr hx hx2;go_wp2_with fail;refine (CN.out _).mono ?_;rintro e w' ⟨rfl,rfl⟩;simp only[eM];rw[HX.out];go_wp2_with fail;refine j5 (aJ _ _ _ _ om om) ?_;go_wp2_with fail;go_ret2;exact ⟨by rw[HZ.out];rfl,ba⟩
    have HG:Hid (stF (n*256+v) ((fs.drop (k+1)).map toL)=stF 0 (fs.map toL)):=by
     show _=_;rw[<-HR.out,HS.out,HS1.out];simp only;rw[if_neg];rintro (h|⟨h,h'⟩)
     .exact hvr h
     exact hq ⟨h,hd.symm.trans h'⟩
    clear hvr hx hx2
    by_cases hq1:1<y.size
    .have hq1':1<(y.size:Int):=om
     have hq2:((d:Int)==48)=false:=by simp;omega
     clear hq;go_wp2_with fail;refine (CN.out _).mono ?_;rintro e w' ⟨rfl,rfl⟩;simp only[eM];rw[HX.out];go_wp2_with fail;refine j5 (aJ _ _ _ _ om om) ?_;go_wp2_with fail;go_round
     case rel=>exact ⟨k+1,n*256+v,a*256+x,om,gn,gn,by have h1:=HA.out;have h2:=HX.out;omega,by have h1:=HN.out;have h2:=HV.out;rw[zi];omega,HG.out⟩
     case measure=>exact j1
    have hq1': ¬1<(y.size:Int):=om;clear hq;go_wp2_with fail;refine (CN.out _).mono ?_;rintro e w' ⟨rfl,rfl⟩;simp only[eM];rw[HX.out];go_wp2_with fail;refine j5 (aJ _ _ _ _ om om) ?_;go_wp2_with fail;go_round
    case rel=>exact ⟨k+1,n*256+v,a*256+x,om,gn,gn,by have h1:=HA.out;have h2:=HX.out;omega,by have h1:=HN.out;have h2:=HV.out;rw[zi];omega,HG.out⟩
    case measure=>exact j1
  have HZ:Hid (p4 s.data.toList=some n):=by
   show _=_;rw[HF.out,<-HR.out];exact Gu fs k n (by have:=HM.out;omega)
  have hki: ¬(k:Int)<4:=om;clear hn ha;go_wp2_with fail;go_ret2;exact ⟨by rw[HZ.out];have h1:=HA.out;simp[eN];exact h1,ba⟩
 have HZ:Hid (p4 s.data.toList=none):=by
  show _=_;rw[HP.out,if_neg h4]
 have h4':((fs.length:Int)==4)=false:=by simp;omega
 clear h4 HP;go_enter func219,ntmps219;go_wp2_with fail;refine CF.out.mono ?_;rintro e wa ⟨va,rfl,OV,ba⟩
 rcases aQ OV with ⟨h,_⟩|⟨_,g,cap,rfl⟩
 .omega
 have h0':0<(fs.length:Int):=om;go_wp2_with fail;refine wp_loop_rounds 1 ?_;rw[rounds_succ];go_wp2_with fail;go_ret2;exact ⟨by rw[HZ.out];rfl,ba⟩
theorem LV(s:ByteArray)(w:World)(hs:s.size<=1048576)(hT:Pow w):Calls prog 286 #[Y s] w fun e w'=>e=Z (eN (p4 s.data.toList))/\Below w.heap.size w w':=by
 have CL:Hid (CB 268 #[Y s] w (eN (loA s))):=wI s w hs;have HT:Hid (Pow w):=hT;clear hT
 cases hl:loA s with
 |none=>
  have HZ:Hid (p4 s.data.toList=none):=TU hl;rw[hl]at CL;clear hl;go_enter func286,ntmps286;go_wp2_with fail;refine CL.out.mono ?_;rintro e wa ⟨rfl,ba⟩;simp only[eN];go_wp2_with fail;go_ret2;exact ⟨by rw[HZ.out];rfl,ba⟩
 |some n=>
  have hn:=TS hl;rw[hl]at CL;have CI:Hid (∀W,Pow W->CB 142 #[I J (n:Int)] W (Y (gP n))):=fun W h=>rN n W om om h
  by_cases hq:gP n=s
  .have HZ:Hid (p4 s.data.toList=some n):=ZJ hl (by rw[<-hq];simp[gP])
   have hst:=xU hq;clear hl hq hn;generalize gP n=T at CI hst;go_enter func286,ntmps286;go_wp2_with fail;refine CL.out.mono ?_;rintro e wa ⟨rfl,ba⟩;simp only[eN];go_wp2_with fail;refine (CI.out _ (cN HT.out ba)).mono ?_;rintro e wb ⟨rfl,bb⟩;go_wp2_with fail;go_ret2;exact ⟨by rw[HZ.out];rfl,ba.trans (bb.mono ba.size)⟩
  have HZ:Hid (p4 s.data.toList=none):=K7 hl (fun e=>hq (bX (by show (gP n).data.toList=s.data.toList;rw[<-e];simp[gP])));have hst:=mZ hq;clear hl hq hn;generalize gP n=T at CI hst;go_enter func286,ntmps286;go_wp2_with fail;refine CL.out.mono ?_;rintro e wa ⟨rfl,ba⟩;simp only[eN];go_wp2_with fail;refine (CI.out _ (cN HT.out ba)).mono ?_;rintro e wb ⟨rfl,bb⟩;go_wp2_with fail;go_ret2;exact ⟨by rw[HZ.out];rfl,ba.trans (bb.mono ba.size)⟩
