/- DotImpl, UrlLaws, UrlTail, HostSpec3, HostSpec4. -/
import Derived.Deep.MidRow
import Derived.Test.YtgcbaphbiaimoaaGreatDoorQB22
set_option maxHeartbeats 4000000
set_option maxRecDepth 100000
namespace Go.Proofs.YtgcbaphbiaimoaaGreatDoor
open Go.Value renaming int->I,string->L,tuple->H,bool->G,pointer->F,agg->E
open Go.IntKind renaming i64->J
open Go.Ending renaming returned->Y
open Go.Obj renaming cells->Z
open _root_.Go.RowKit.Below renaming refl->zi
open _root_.ByteArray renaming size_extract->zf
open _root_.Go.ByteArray renaming toList_eq->zl
open _root_.List renaming eq_nil_of_length_eq_zero->ze,flatten_cons->zm,getD_cons_succ->zh,getD_cons_zero->zg,intercalate->zn,length_set->zo,size_toArray->zd
open _root_.Nat renaming le_refl->zc,zero_add->zj
open _root_.Go.World renaming frozen?_setCell->zk
open _root_.Go.Proofs.Tryz
open _root_.Go.Proofs.YtgcbaphbiaimoaaGreatDoor.Tryz
open Go.RowKit
theorem Jm{l:List UInt8}(h:unL l=[46]):isd l=1:=by unfold isd;rw[if_pos h]
theorem Jn{l:List UInt8}(h:unL l=[46,46]):isd l=2:=by unfold isd;rw[h];decide
theorem Eh{l:List UInt8}(h1: ¬unL l=[46])(h2: ¬unL l=[46,46]):isd l=0:=by unfold isd;rw[if_neg h1,if_neg h2]
theorem AW{u:ByteArray}{l:List UInt8}(h:u.data.toList=l):(u.toList==l)=true:=by rw[zl,h];exact beq_self_eq_true _
theorem AX{u:ByteArray}{l:List UInt8}(h: ¬u.data.toList=l):(u.toList==l)=false:=by
 rw[zl];exact beq_eq_false_iff_ne.2 h
theorem WA(b:UInt8)(ls:List ByteArray):Lib.join (ls.map (·.data.toList)) [b]=jn b ls:=by
 cases ls with
 |nil=>rfl
 |cons x xs=>
  unfold jn
  induction xs generalizing x with
  |nil=>simp[Lib.join,zn]
  |cons y ys ih=>
   have h:=ih y;simp only[Lib.join,zn,List.map_cons]at h⊢;rw[List.intersperse_cons_cons,zm,zm,h,List.flatMap_cons];simp
theorem IT(s:ByteArray)(w:World)(hs:s.size<=16777216):Calls prog 136 #[L s] w fun e w'=>e=Y (I J (isd s.data.toList:Int))/\Below w.heap.size w w':=by
 go_enter func136,ntmps136;go_wp2_with fail;refine j6 (vA s _ om) fun wa ba=>?_
 obtain ⟨u,hu⟩: ∃u:ByteArray,u=⟨(unL s.data.toList).toArray⟩:=⟨_,rfl⟩;have hd:u.data.toList=unL s.data.toList:=by rw[hu]
 rw[<-hu];clear hu;have HD:Hid (u.data.toList=unL s.data.toList):=hd
 by_cases h1:unL s.data.toList=[46]
 .have h:=AW (hd.trans h1)
  have HI:Hid (isd s.data.toList=1):=Jm h1;clear hd h1;go_wp2;go_ret;exact ⟨aV (by rw[HI.out];rfl),ba⟩
 have hx1:=AX (u:=u) (l:=[46]) (by rw[hd];exact h1)
 by_cases h2:unL s.data.toList=[46,46]
 .have h:=AW (hd.trans h2)
  have HI:Hid (isd s.data.toList=2):=Jn h2;clear hd h1 h2;go_wp2;go_ret;exact ⟨aV (by rw[HI.out];rfl),ba⟩
 have hx2:=AX (u:=u) (l:=[46,46]) (by rw[hd];exact h2);have HI:Hid (isd s.data.toList=0):=Eh h1 h2;clear hd h1 h2;go_wp2;go_ret;exact ⟨aV (by rw[HI.out];rfl),ba⟩
theorem K6(p:ByteArray): ∀k,k<=p.size->Lib.lastIdx p 47 k+1=(upN p k:Int)
 |0,_=>rfl
 |k+1,hk=>by
  have ih:=K6 p k om;have e:p.data[k]! =p[k]:=getElem!_pos p.data k (by have h:p.data.size=p.size:=rfl;omega);unfold Lib.lastIdx;rw[e]
  by_cases h:p[k].toNat=47
  .rw[if_pos om,I4 om h];omega
  rw[if_neg om,UQ om h,ih]
theorem U5(p:ByteArray)(w:World)(hs:p.size<=16777216):Calls prog 221 #[L p] w fun e w'=>e=Y (L (upT p))/\Below w.heap.size w w':=by
 have hl:=K6 p p.size (zc _);have hle:=Cn p p.size;obtain ⟨b,hb⟩: ∃b,upN p p.size=b:=⟨_,rfl⟩;have HU:Hid (p.extract 0 b=upT p):=I5 hb;rw[hb]at hl hle;have hl0:Lib.lastIndexByte p 47=(b:Int)-1:=by show Lib.lastIdx p 47 p.size=_;omega
 have CL:Hid (∀W,CS 210 #[L p,.int .u8 47] W (I J (Lib.lastIndexByte p 47))):=fun W=>(strings_LastIndexByte p 47 om W).mono fun e w' h=>⟨h.1,h.2.symm⟩
 rw[hl0]at CL;have hbi:(b:Int)<=(p.size:Int):=om;have hes:(p.extract 0 b).size<=281474976710656:=by rw[zf];omega
 clear hl hl0 hb;go_enter func221,ntmps221;go_wp2_with fail;refine (CL.out _).mono ?_;rintro e w' ⟨rfl,rfl⟩;go_wp2_with fail;refine j6 (kF _ _ hes) fun wa ba=>?_
 go_wp2;go_ret;exact ⟨bH HU.out,ba⟩
theorem WB(n0 B g:Nat)(out:List ByteArray)(x:ByteArray)(w:World)(hx:x.size<=16777216)(hlen:out.length<=16777217)(hgB:g≠B)(hB:n0<=B)(h:kX 86 9 n0 B g out w):Calls prog 183 #[L x,F (some ⟨B,0,none⟩)] w fun e w'=>e=Y (H #[])/\kX 86 9 n0 B g (fM out x) w'/\w'.heap[g]? =w.heap[g]? /\Below n0 w w':=by
 have hBs:B<w.heap.size:=by obtain ⟨v,h1,_⟩:=h;exact h1.lt
 go_enter func183,ntmps183;go_wp2_with fail;refine j6 (IT x _ hx) fun wa ba=>?_
 have za:=ba.size;have ha:=tB h ba;have hg0:wa.heap[g]? =w.heap[g]? :=by obtain ⟨v,_,_,_,h4⟩:=h;exact ba.block g h4
 have hbel:Below n0 w wa:=ba.mono om;clear h ba;have hn:=YG x.data.toList;obtain ⟨v,h1,h2,h3,h4⟩:=ha;have hc:=h1.cell;have hf:=h1.frozen;have HG:Hid (wa.heap[g]? =w.heap[g]?):=hg0;clear hg0
 by_cases d0:isd x.data.toList=0
 .have HS:Hid (fM out x=out++[x]):=uD d0
  have e0:((isd x.data.toList:Int)==0)=true:=by rw[d0];rfl
  clear d0 hn;go_wp2_with (at_builtin;refine eZ _ rfl _ _ 86 rfl n0 9 (L ⟨#[]⟩) 16 underlying86 infoStr rfl _ _ _ rfl h2 #[L x] 1 rfl rfl (lJ _) om (by unfold maxLen;omega) om ?_);intro v' w1 o hgr hat;obtain ⟨k1,k2,k3,k4⟩:=S8 de hgB hB om h1 h2 h3 h4 o hgr hat;obtain ⟨b',cp',rfl⟩:=ownsRow_succ o;have hf1:=k1.frozen;have hc1:=k1.cell;clear h1 h2 h3 h4 hc hf o hgr hat;go_wp2
  go_end0
  exact ⟨rfl,by rw[HS.out];exact k2,k3.trans HG.out,hbel.trans k4⟩
 have e0:((isd x.data.toList:Int)==0)=false:=by rw[beq_eq_false_iff_ne];omega
 by_cases d2:isd x.data.toList=2
 .have HS:Hid (fM out x=out.take (out.length-1)):=UH d2
  have e2:((isd x.data.toList:Int)==2)=true:=by rw[d2];rfl
  clear d0 d2 hn
  rcases aY h2 with ⟨hl,hnil,ao,cap,rfl⟩|⟨hl,b,cap,rfl⟩
  .go_wp2
   go_end0
   refine ⟨rfl,?_,HG.out,hbel⟩;rw[HS.out,hl,List.take_of_length_le om];exact ⟨_,h1,h2,h3,h4⟩
  obtain ⟨k2,k3,k4⟩:=S9 de (out.length-1) om hgB hB h1 h2 h3 h4;have hcap:=mY h2;clear h1 h2 h3 h4;go_wp2
  go_end0
  exact ⟨rfl,by rw[HS.out];exact k2,k3.trans HG.out,hbel.trans k4⟩
 have HS:Hid (fM out x=out):=UG (by show isd x.data.toList=1;omega);have e2:((isd x.data.toList:Int)==2)=false:=by rw[beq_eq_false_iff_ne];omega
 clear d0 d2 hn;go_wp2
 go_end0
 exact ⟨rfl,by rw[HS.out];exact ⟨v,h1,h2,h3,h4⟩,HG.out,hbel⟩
theorem zC(n0 B g:Nat)(out:List ByteArray)(w:World)(hne:out≠[])(hlen:(out.length:Int)<=16777217)(hsz:((slL out).length:Int)<=16777217)(h:kX 86 9 n0 B g out w):Calls prog 184 #[F (some ⟨B,0,none⟩)] w fun e w'=>e=Y (L ⟨(slL out).toArray⟩)/\Below w.heap.size w w':=by
 obtain ⟨v,h1,h2,h3,h4⟩:=h;have hc:=h1.cell;have hs:=sl_jn out hne;have hjl:(slL out).length=(jn 47 out).length+1:=by rw[hs];rfl
 have HS:Hid (slL out=47::jn 47 out):=hs;clear hs
 rcases aY h2 with ⟨hl,_⟩|⟨hl,b,cap,rfl⟩
 .exact absurd (ze hl) hne
 have CJ:=strings_Join b 0 cap out ⟨#[47]⟩ w (fun j x hj=>by
    have hjl:j<out.length:=(List.getElem?_eq_some_iff.1 hj).1;rw[zj,cO h2 j hjl,List.getD_eq_getElem?_getD,hj];rfl) (h2.lt b rfl).2 om (mY h2) (by
    rw[show (⟨#[47]⟩:ByteArray).data.toList=[47] from rfl,WA];omega)
 rw[show (⟨#[47]⟩:ByteArray).data.toList=[47] from rfl,WA]at CJ;have CJ:Hid (CB 185 #[.slice (some ⟨b,0,none⟩) out.length cap,L ⟨#[47]⟩] w (L ⟨(jn 47 out).toArray⟩)):=CJ;have hT:(⟨(jn 47 out).toArray⟩:ByteArray).size=(jn 47 out).length:=zd;have HF:Hid ((⟨#[47]⟩:ByteArray)++(⟨(jn 47 out).toArray⟩:ByteArray)=⟨(slL out).toArray⟩):=by show _=_;rw[XH,<-HS.out]
 clear h1 h2 h3 h4;generalize (⟨(jn 47 out).toArray⟩:ByteArray)=T at CJ hT HF;have hTs:T.size<=16777217:=om;clear hT hjl;go_enter func184,ntmps184;go_wp2_with fail;refine CJ.out.mono ?_;rintro e wa ⟨rfl,ba⟩;go_wp2;go_ret;exact ⟨bH HF.out,ba⟩
def oM(C:Nat)(W W':World):Prop:=(∀B vs,B≠C->UAt W B vs->UAt W' B vs)/\ ∀m w0,m<=C->Below m w0 W->Below m w0 W'
theorem UAt.range{W:World}{B:Nat}{vs:List Value}(h:UAt W B vs)(off:Nat)(cs:List Value)(hs: ∀j v,cs[j]? =some v->vs[off+j]? =some v):W.rangeAt B off cs:=fun j v hv=>h.1 (off+j) v (hs j v hv)
theorem UAt.there{W:World}{B:Nat}{vs:List Value}(h:UAt W B vs)(off n:Nat)(hn:off+n<=vs.length):W.there B off n:=fun j hj=>by
 have e:=h.1 (off+j) _ (List.getElem?_eq_getElem (show off+j<vs.length by omega));exact ⟨by rw[e];rfl,h.2.1 _⟩
theorem bW{C:Nat}: ∀(cs:List Value) (off:Nat) (W:World),oM C W (W.setCells C off cs)
 |[],_,_=>⟨fun _ _ _ h=>h,fun _ _ _ h=>h⟩
 |v::cs,off,W=>by
  have h:=bW (C:=C) cs (off+1) (W.setCell ⟨C,off,none⟩ v);refine ⟨fun B vs hne hU=> ?_,fun m w0 hm hb=> ?_⟩
  .exact h.1 B vs hne (hU.other hne off v)
  exact h.2 m w0 hm (hb.setCell (p:=⟨C,off,none⟩) hm v)
theorem tF{C:Nat}: ∀(cs:List Value) (off:Nat) (W:World) (vs:List Value),off+cs.length<=vs.length->UAt W C vs->UAt (W.setCells C off cs) C (vs.take off++(cs++vs.drop (off+cs.length)))
 |[],off,W,vs,_,h=>by
  have e:vs.take off++([]++vs.drop (off+([]:List Value).length))=vs:=by simp
  rw[e];exact h
 |v::cs,off,W,vs,hl,h=>by
  have hl':off+1+cs.length<=vs.length:=by simp at hl;omega
  have h1:=tF (C:=C) cs (off+1) (W.setCell ⟨C,off,none⟩ v) (vs.set off v) (by rw[zo];exact hl') (h.set off om v);have e:(vs.set off v).take (off+1)++(cs++(vs.set off v).drop (off+1+cs.length))=vs.take off++(v::cs++vs.drop (off+(v::cs).length)):=by
   rw[List.take_succ_eq_append_getElem (by rw[zo];omega),List.getElem_set_self,List.take_set_of_le (zc _),List.drop_set_of_lt om,List.length_cons,show off+1+cs.length=off+(cs.length+1) by omega];simp
  rw[e]at h1;exact h1
theorem AY{P:Program}{ops:Array Oper}{rest:List Oper}{o:Oper}{a:Act}{W:World}{Q:Exit->Act->World->Prop}(hgd:o.guard=none)(ty:TypeId)(x:Operand)(ho:o.op=.load ty x)
  (B off:Nat) (hx:a.eval x=F (some ⟨B,off,none⟩)) (vs cs:List Value) (hU:UAt W B vs) (hs: ∀j v,cs[j]? =some v->vs[off+j]? =some v)
  (d:TypeDesc) (hu:P.underlying ty=some d) (hd:d.isRow=true) (hi:(P.info? ty).map (·.size)=some cs.length)
  (h:wpList P ops Q rest (a.put o.dst (E cs.toArray)) W):wpList P ops Q (o::rest) a W:=
 wpList_load_mid hgd ty x ho B off hx cs d (hU.range off cs hs) hu hd hi h
theorem AZ{P:Program}{ops:Array Oper}{rest:List Oper}{o:Oper}{a:Act}{W:World}{Q:Exit->Act->World->Prop}(hgd:o.guard=none)(ty:TypeId)(x y:Operand)(ho:o.op=.store ty x y)
  (C off:Nat) (cells:Array Value) (hx:a.eval x=F (some ⟨C,off,none⟩)) (hy:a.eval y=E cells) (vs:List Value) (hU:UAt W C vs) (hl:off+cells.size<=vs.length)
  (hi:(P.info? ty).map (·.size)=some cells.size) (h1:cells.all (·.oneCell')=true)
  (h: ∀W',UAt W' C (vs.take off++(cells.toList++vs.drop (off+cells.size)))->oM C W W'->wpList P ops Q rest (a.put o.dst undef) W'):wpList P ops Q (o::rest) a W:=
 wpList_store_mid hgd ty x y ho C off cells hx hy (hU.there off _ hl) hi h1 (h _ (by
  have:=tF cells.toList off W vs (by simpa using hl) hU
  simpa using this) (bW _ _ _))
theorem aG(s k n p:Int)(nm a r:ByteArray)(q:Bool)(x0 x1 x2 x3 x4 x5 x6 x7:Int):(aA s k nm n x0 x1 x2 x3 x4 x5 x6 x7 p a q r).toArray.all (·.oneCell')=true:=by simp[aA,Value.oneCell']
theorem Tryz.infoUrl:(prog.info? 28).map (·.size)=some 16:=kr
theorem Tryz.infoHost:(prog.info? 26).map (·.size)=some 11:=kr
theorem Tryz.rowUrl: ∃d,prog.underlying 28=some d/\d.isRow=true:=⟨_,underlying28,rfl⟩
theorem Tryz.rowHost: ∃d,prog.underlying 26=some d/\d.isRow=true:=⟨_,underlying26,rfl⟩
theorem bA{ops:Array Oper}{rest:List Oper}{o:Oper}{a:Act}{W:World}{Q:Exit->Act->World->Prop}{B:Nat}{vs:List Value}(hU:UAt W B vs)(hl:vs.length=16)(hgd:o.guard=none)(x:Operand)(ho:o.op=.load 28 x)
  (hx:a.eval x=F (some ⟨B,0,none⟩)) (h:wpList prog ops Q rest (a.put o.dst (E vs.toArray)) W):wpList prog ops Q (o::rest) a W:=by
 obtain ⟨d,hd1,hd2⟩:=rowUrl;exact AY hgd _ x ho B 0 hx vs vs hU (fun j v hv=>by rw[zj];exact hv) d hd1 hd2 (by rw[hl];exact infoUrl) h
theorem aT{ops:Array Oper}{rest:List Oper}{o:Oper}{a:Act}{W:World}{Q:Exit->Act->World->Prop}{C:Nat}{vs us:List Value}(hU:UAt W C vs)(hl:vs.length=16)(hm:us.length=16)(h1:us.toArray.all (·.oneCell')=true)(hgd:o.guard=none)(x y:Operand)(ho:o.op=.store 28 x y)
  (hx:a.eval x=F (some ⟨C,0,none⟩)) (hy:a.eval y=E us.toArray) (h: ∀W',UAt W' C us->oM C W W'->wpList prog ops Q rest (a.put o.dst undef) W'):wpList prog ops Q (o::rest) a W:=
 AZ hgd _ x y ho C 0 us.toArray hx hy vs hU (by rw[zd,hl,hm];decide) (by rw[zd,hm];exact infoUrl) h1 fun W' hU' hM=>h W' (by
  have e:vs.take 0++(us.toArray.toList++vs.drop (0+us.toArray.size))=us:=by rw[zd,hm,List.drop_of_length_le om];simp
  rw[e]at hU';exact hU') hM
theorem zD{ops:Array Oper}{rest:List Oper}{o:Oper}{a:Act}{W:World}{Q:Exit->Act->World->Prop}{B:Nat}{vs:List Value}(hU:UAt W B vs)(off:Nat)(cs:List Value)(hs: ∀j v,cs[j]? =some v->vs[off+j]? =some v)(hl:cs.length=11)(hgd:o.guard=none)(x:Operand)(ho:o.op=.load 26 x)
  (hx:a.eval x=F (some ⟨B,off,none⟩)) (h:wpList prog ops Q rest (a.put o.dst (E cs.toArray)) W):wpList prog ops Q (o::rest) a W:=by
 obtain ⟨d,hd1,hd2⟩:=rowHost;exact AY hgd _ x ho B off hx vs cs hU hs d hd1 hd2 (by rw[hl];exact infoHost) h
theorem jN{ops:Array Oper}{rest:List Oper}{o:Oper}{a:Act}{W:World}{Q:Exit->Act->World->Prop}{C:Nat}{vs us:List Value}(hU:UAt W C vs)(off:Nat)(hl:off+11<=vs.length)(hm:us.length=11)(h1:us.toArray.all (·.oneCell')=true)(hgd:o.guard=none)(x y:Operand)(ho:o.op=.store 26 x y)
  (hx:a.eval x=F (some ⟨C,off,none⟩)) (hy:a.eval y=E us.toArray) (h: ∀W',UAt W' C (vs.take off++(us++vs.drop (off+11)))->oM C W W'->wpList prog ops Q rest (a.put o.dst undef) W'):wpList prog ops Q (o::rest) a W:=
 AZ hgd _ x y ho C off us.toArray hx hy vs hU (by rw[zd,hm];exact hl) (by rw[zd,hm];exact infoHost) h1 fun W' hU' hM=>h W' (by
  rw[zd,hm]at hU';exact hU') hM
theorem gY(k n:Int)(s:ByteArray)(x0 x1 x2 x3 x4 x5 x6 x7:Int):(bD k s n x0 x1 x2 x3 x4 x5 x6 x7).toArray.all (·.oneCell')=true:=by simp[bD,Value.oneCell']
theorem bX{fn:Func}{i:Tmp}(h:fn.results= #[.cell i 28])(tmps:Array Value)(W:World)(B:Nat)(vs:List Value)(hl:vs.length=16)
  (hp:tmps[i]?.getD undef=F (some ⟨B,0,none⟩)) (ha:UAt W B vs):(results fn tmps).run prog W=.ok (E vs.toArray) W:=by
 obtain ⟨d,hd1,hd2⟩:=rowUrl;have hr:=run_loadVar_mid (P:=prog) W B 0 28 vs d (ha.range 0 vs (fun j v hv=>by rw[zj];exact hv)) hd1 hd2 (by rw[hl];exact infoUrl);simp[results,h,hp,asAddr,hr]
theorem aQ{fn:Func}{i j:Tmp}(h:fn.results= #[.cell i 28,.tmp j])(tmps:Array Value)(W:World)(B:Nat)(v:Value)(vs:List Value)(hl:vs.length=16)
  (hp:tmps[i]?.getD undef=F (some ⟨B,0,none⟩)) (hq:tmps[j]?.getD undef=v) (ha:UAt W B vs):(results fn tmps).run prog W=.ok (H #[E vs.toArray,v]) W:=by
 obtain ⟨d,hd1,hd2⟩:=rowUrl;have hr:=run_loadVar_mid (P:=prog) W B 0 28 vs d (ha.range 0 vs (fun j v hv=>by rw[zj];exact hv)) hd1 hd2 (by rw[hl];exact infoUrl);simp[results,h,hp,hq,asAddr,hr]
def kY(l:ByteArray):ByteArray:=⟨(l.data.toList.takeWhile fun c=>c !=63).toArray⟩
def iC(l:ByteArray):ByteArray:=⟨(l.data.toList.dropWhile fun c=>c !=63).toArray⟩
def gZ(l:ByteArray):ByteArray:=if l.size=0 then ⟨#[47]⟩else l
def gK(l:ByteArray):ByteArray:=cD (plB 1 ⟨(eO (gZ (kY l)).data.toList).toArray⟩)
def kZ(l:ByteArray):Bool:=decide (0<(iC l).size)
def gF(l:ByteArray):ByteArray:=plB 2 ((iC l).extract 1 (iC l).size)
theorem Ei(c:UInt8):eA (⟨#[63]⟩:ByteArray).data.toList (c.toNat:Int)= !(c !=63):=by
 have key: ∀n:Nat,n<256->eA [63] (n:Int)= !(UInt8.ofNat n !=63):=by decide+kernel
 have h:=key c.toNat c.toNat_lt;simpa using h
theorem iM{p:UInt8->Bool}(l:ByteArray):(⟨(l.data.toList.takeWhile p).toArray⟩:ByteArray).size<=l.size/\(⟨(l.data.toList.dropWhile p).toArray⟩:ByteArray).size<=l.size:=by
 have h:l.data.toList.length=l.size:=by simp
 have h1:=congrArg List.length (List.takeWhile_append_dropWhile (p:=p) (l:=l.data.toList));rw[List.length_append,h]at h1;constructor
 .show (l.data.toList.takeWhile p).toArray.size<=_
  rw[zd];omega
 show (l.data.toList.dropWhile p).toArray.size<=_;rw[zd];omega
theorem zE(s k n p:Int)(nm a r:ByteArray)(q:Bool)(x0 x1 x2 x3 x4 x5 x6 x7:Int)(l:ByteArray)(w:World)(hl:l.size<=4194303):Calls prog 59 #[E #[I J s,I J k,L nm,I J n,I J x0,I J x1,I J x2,I J x3,I J x4,I J x5,I J x6,I J x7,I J p,L a,G q,L r],L l] w fun e w'=>e=Y (E (aA s k nm n x0 x1 x2 x3 x4 x5 x6 x7 p (gK l) (kZ l) (gF l)).toArray)/\Below w.heap.size w w':=by
 obtain ⟨hs1,hs2⟩:=iM (p:=fun c=>c !=63) l;have CU:Hid (∀W,CB 54 #[L l,L ⟨#[63]⟩] W (H #[L (kY l),L (iC l)])):=fun W=>AP (fun c=>c !=63) ⟨#[63]⟩ l W de Ei om
 have hps:(gZ (kY l)).size<=4194304:=by
  unfold gZ;split
  .decide
  exact Nat.le_trans hs1 om
 have CP:Hid (∀W,CB 117 #[L (gZ (kY l))] W (L (gK l))):=fun W=>Dh _ W hps
 have CR:Hid (∀W,CB 41 #[L ((iC l).extract 1 (iC l).size),I J 2] W (L (gF l))):=fun W=>mG _ 2 W (by rw[zf];have:(iC l).size<=l.size:=hs2;omega)
 have HQ:Hid (kZ l=decide (0<(iC l).size)):=rfl;have HR0:Hid ((iC l).size=0->gF l=⟨#[]⟩):=fun h=>by
  show plB 2 ((iC l).extract 1 (iC l).size)=_;apply bL;rw[pB];have e:toL ((iC l).extract 1 (iC l).size)=[]:=ze (by simp[toL];omega);rw[e];rfl
 have hms:(iC l).size<=l.size:=hs2;generalize gK l=A at CP⊢;generalize gF l=RR at CR HR0⊢;generalize iC l=M at CU CR HQ HR0 hms;generalize kY l=PP at CU CP hps;clear hs1 hs2;obtain ⟨O,hO⟩: ∃O,O=(w.alloc (Z #[I J s,I J k,L nm,I J n,I J x0,I J x1,I J x2,I J x3,I J x4,I J x5,I J x6,I J x7,I J p,L a,G q,L r] 28)).alloc (Z #[I J 0,I J 0,L ⟨#[]⟩,I J 0,I J 0,I J 0,I J 0,I J 0,I J 0,I J 0,I J 0,I J 0,I J 0,L ⟨#[]⟩,G false,L ⟨#[]⟩] 28):=⟨_,rfl⟩;have HU:Hid (UAt O w.heap.size (aA s k nm n x0 x1 x2 x3 x4 x5 x6 x7 p a q r)):=by
  rw[hO];exact (UAt.new w _ _).below ((zi _ _).alloc (zc _) _)
 have HV:Hid (UAt O (w.heap.size+1) aM):=by
  rw[hO];have h:=UAt.new (w.alloc (Z #[I J s,I J k,L nm,I J n,I J x0,I J x1,I J x2,I J x3,I J x4,I J x5,I J x6,I J x7,I J p,L a,G q,L r] 28)) #[I J 0,I J 0,L ⟨#[]⟩,I J 0,I J 0,I J 0,I J 0,I J 0,I J 0,I J 0,I J 0,I J 0,I J 0,L ⟨#[]⟩,G false,L ⟨#[]⟩] 28;rw[World.size_alloc]at h;exact h
 have HB:Hid (Below w.heap.size w O):=by
  rw[hO];exact ((zi _ w).alloc (zc _) _).alloc j2 _
 go_enter func59,ntmps59;go_wp2_with fail;rw[<-hO];clear hO;refine (CU.out _).mono ?_;rintro e w1 ⟨rfl,b1⟩;have HU1:Hid (UAt w1 w.heap.size (aA s k nm n x0 x1 x2 x3 x4 x5 x6 x7 p a q r)):=HU.out.below b1;have HV1:Hid (UAt w1 (w.heap.size+1) aM):=HV.out.below b1;have HB1:Hid (Below w.heap.size w w1):=HB.out.trans (b1.mono HB.out.size);clear b1 HU HV HB
 go_upto_if 13 with fail
 go_cut [5] (fun v wx=>v=L (gZ PP)/\wx=w1)
 case first=>
  by_cases h0:PP.size=0
  .have HE:Hid (gZ PP=⟨#[47]⟩):=by show _=_;unfold gZ;rw[if_pos h0]
   rw[aS h0];go_wp2_with fail;go_meet;exact ⟨by rw[HE.out],rfl⟩
  have HE:Hid (gZ PP=PP):=by show _=_;unfold gZ;rw[if_neg h0]
  rw[aW (show 0<PP.size by omega)];go_wp2_with fail;go_meet;exact ⟨by rw[HE.out],rfl⟩
 obtain ⟨rfl,rfl⟩:=hcut;go_wp2_with fail;refine (CP.out _).mono ?_;rintro e w2 ⟨rfl,b2⟩;have HU2:=HU1.out.below b2;have HV2:Hid (UAt w2 (w.heap.size+1) aM):=HV1.out.below b2;have HB2:Hid (Below w.heap.size w w2):=HB1.out.trans (b2.mono HB1.out.size);have c13:=HU2.1 13 _ rfl;have c14:=HU2.1 14 _ rfl;have c15:=HU2.1 15 _ rfl;have f13:=HU2.2.1 13;have f14:=HU2.2.1 14;have f15:=HU2.2.1 15;obtain ⟨b,hb⟩: ∃b,(!M.toList.isEmpty)=b:=⟨_,rfl⟩;have hqb:kZ l=b:=by
  rw[HQ.out,<-hb]
  by_cases h0:M.size=0
  .rw[aS h0,decide_eq_false om];rfl
  rw[aW (show 0<M.size by omega),decide_eq_true om];rfl
 have HU3:Hid (UAt (((w2.setCell ⟨w.heap.size,13,none⟩ (L A)).setCell ⟨w.heap.size,14,none⟩ (G b)).setCell ⟨w.heap.size,15,none⟩ (L ⟨#[]⟩)) w.heap.size (aA s k nm n x0 x1 x2 x3 x4 x5 x6 x7 p A b ⟨#[]⟩)):=
  ((HU2.set 13 (by simp[aA]) _).set 14 (by simp[aA]) _).set 15 (by simp[aA]) _
 have HV3:Hid (UAt (((w2.setCell ⟨w.heap.size,13,none⟩ (L A)).setCell ⟨w.heap.size,14,none⟩ (G b)).setCell ⟨w.heap.size,15,none⟩ (L ⟨#[]⟩)) (w.heap.size+1) aM):=
  ((HV2.out.other om _ _).other om _ _).other om _ _
 have HB3:Hid (Below w.heap.size w (((w2.setCell ⟨w.heap.size,13,none⟩ (L A)).setCell ⟨w.heap.size,14,none⟩ (G b)).setCell ⟨w.heap.size,15,none⟩ (L ⟨#[]⟩))):=
  ((HB2.out.setCell (p:=⟨w.heap.size,13,none⟩) (zc _) _).setCell (p:=⟨w.heap.size,14,none⟩) (zc _) _).setCell (p:=⟨w.heap.size,15,none⟩) (zc _) _
 clear HU2 b2
 go_upto_if 22 with fail
 generalize (((w2.setCell ⟨w.heap.size,13,none⟩ (L A)).setCell ⟨w.heap.size,14,none⟩ (G b)).setCell ⟨w.heap.size,15,none⟩ (L ⟨#[]⟩))=w3 at HU3 HV3 HB3⊢;clear c13 c14 c15 f13 f14 f15 HV2 HB2;have HQB:Hid (kZ l=b):=hqb;clear hqb HQ
 go_cut [0] (fun _ wx=>Hid (UAt wx w.heap.size (aA s k nm n x0 x1 x2 x3 x4 x5 x6 x7 p A b RR))/\Hid (UAt wx (w.heap.size+1) aM)/\Hid (Below w.heap.size w wx))
 case first=>
  by_cases h0:M.size=0
  .have hbf:b=false:=by rw[<-hb,aS h0];rfl
   have hR:=HR0.out h0;subst hbf;clear hb;go_wp2_with fail;go_meet;exact ⟨by rw[hR];exact HU3,HV3,HB3⟩
  have hbt:b=true:=by rw[<-hb,aW (show 0<M.size by omega)];rfl
  subst hbt;clear hb;have hM:1<=M.size:=om;go_wp2_with fail;refine (CR.out _).mono ?_;rintro e w4 ⟨rfl,b4⟩;have HU4:=HU3.out.below b4;have HV4:=HV3.out.below b4;have HB4:=HB3.out.trans (b4.mono HB3.out.size);have c15:=HU4.1 15 _ rfl;have f15:=HU4.2.1 15;have HU5:Hid (UAt (w4.setCell ⟨w.heap.size,15,none⟩ (L RR)) w.heap.size (aA s k nm n x0 x1 x2 x3 x4 x5 x6 x7 p A true RR)):=HU4.set 15 (by simp[aA]) _;have HV5:Hid (UAt (w4.setCell ⟨w.heap.size,15,none⟩ (L RR)) (w.heap.size+1) aM):=HV4.other om _ _;have HB5:Hid (Below w.heap.size w (w4.setCell ⟨w.heap.size,15,none⟩ (L RR))):=HB4.setCell (p:=⟨w.heap.size,15,none⟩) (zc _) _;clear b4 HU4 HV4 HB4;go_wp2_with fail;go_meet;exact ⟨HU5,HV5,HB5⟩
 obtain ⟨HU,HV,HB⟩:=hcut;clear HU3 HV3 HB3 CR CP CU HU1 HV1 HB1 HR0 hb;go_wp2_with (first|(refine bA HU.out rfl rfl _ rfl rfl ?_)|(refine aT HV.out rfl (us:=aA s k nm n x0 x1 x2 x3 x4 x5 x6 x7 p A b RR) rfl (aG ..) rfl _ _ rfl rfl rfl ?_;intro w9 HU9 HM9));refine bodyPost_ret (bX rfl _ _ (w.heap.size+1) _ rfl rfl HU9) rfl ⟨by rw[HQB.out],HM9.2 _ _ (Nat.le_succ _) HB.out⟩
def qV(W:World)(B:Nat):Prop:=
 W.cell? ⟨B,0,none⟩=some (I J 0)/\W.cell? ⟨B,1,none⟩=some (L ⟨#[]⟩)/\W.cell? ⟨B,2,none⟩=some (I J 0)/\W.cell? ⟨B,3,none⟩=some (I J 0)/\W.cell? ⟨B,4,none⟩=some (I J 0)/\
 W.cell? ⟨B,5,none⟩=some (I J 0)/\W.cell? ⟨B,6,none⟩=some (I J 0)/\W.cell? ⟨B,7,none⟩=some (I J 0)/\W.cell? ⟨B,8,none⟩=some (I J 0)/\W.cell? ⟨B,9,none⟩=some (I J 0)/\W.cell? ⟨B,10,none⟩=some (I J 0)
def Ej(w W:World):Prop:=qV W w.heap.size/\qV W (w.heap.size+1)/\ ∀j,W.frozen? ⟨w.heap.size,j,none⟩=false
theorem Lk(w W:World)(t:TypeId)(hb:Below ((w.alloc (Z #[I J 0,L ⟨#[]⟩,I J 0,I J 0,I J 0,I J 0,I J 0,I J 0,I J 0,I J 0,I J 0] t)).alloc (Z #[I J 0,L ⟨#[]⟩,I J 0,I J 0,I J 0,I J 0,I J 0,I J 0,I J 0,I J 0,I J 0] t)).heap.size ((w.alloc (Z #[I J 0,L ⟨#[]⟩,I J 0,I J 0,I J 0,I J 0,I J 0,I J 0,I J 0,I J 0,I J 0] t)).alloc (Z #[I J 0,L ⟨#[]⟩,I J 0,I J 0,I J 0,I J 0,I J 0,I J 0,I J 0,I J 0,I J 0] t)) W):Ej w W:=by
 have h1:=((zi _ (w.alloc (Z #[I J 0,L ⟨#[]⟩,I J 0,I J 0,I J 0,I J 0,I J 0,I J 0,I J 0,I J 0,I J 0] t))).alloc (zc _) (Z #[I J 0,L ⟨#[]⟩,I J 0,I J 0,I J 0,I J 0,I J 0,I J 0,I J 0,I J 0,I J 0] t)).trans (hb.mono j2);have h2:=eB _ W _ _ _ 0 0 0 0 0 0 0 0 t hb;unfold fJ at h2;simp only[show (w.alloc (Z #[I J 0,L ⟨#[]⟩,I J 0,I J 0,I J 0,I J 0,I J 0,I J 0,I J 0,I J 0,I J 0] t)).heap.size=w.heap.size+1 by simp]at h2;exact ⟨eB w W _ _ _ 0 0 0 0 0 0 0 0 t h1,h2,BS w W _ t h1⟩
theorem cH{W:World}{B:Nat}(h:qV W B):eX W B (bD 0 ⟨#[]⟩ 0 0 0 0 0 0 0 0 0):=by
 obtain ⟨c0,c1,c2,c3,c4,c5,c6,c7,c8,c9,c10⟩:=h;intro j v hv
 match j,hv with
 |0,hv=>cases hv;exact c0
 |1,hv=>cases hv;exact c1
 |2,hv=>cases hv;exact c2
 |3,hv=>cases hv;exact c3
 |4,hv=>cases hv;exact c4
 |5,hv=>cases hv;exact c5
 |6,hv=>cases hv;exact c6
 |7,hv=>cases hv;exact c7
 |8,hv=>cases hv;exact c8
 |9,hv=>cases hv;exact c9
 |10,hv=>cases hv;exact c10
 |j+11,hv=>simp[bD]at hv
theorem Ek{s:ByteArray}(h:1<s.size):(s.extract 1 s.size).data.toList.getLast? =some (s[s.size-1]'om):=by
 rw[bE,dD s s.size (zc _),List.getLast?_drop,if_neg (by simp;omega)];exact OK s om
theorem Mt{s:ByteArray}(h:1<s.size):(s.extract 1 s.size).data.toList.dropLast=(s.extract 1 (s.size-1)).data.toList:=by
 have hl:s.data.toList.length=s.size:=by simp
 rw[bE,bE,dD s s.size (zc _),List.dropLast_eq_take,List.length_drop,hl,List.take_drop,show 1+(s.size-1-1)=s.size-1 by omega]
theorem nil_r{s:ByteArray}(h: ¬1<s.size):(s.extract 1 s.size).data.toList.getLast? =none:=by
 have e:(s.extract 1 s.size).data.toList=[]:=ze (by simp;omega);rw[e];rfl
theorem EI{W:World}{B:Nat}{vs:List Value}(h:eX W B vs){C:Nat}(hne:B≠C)(x0 x1 x2 x3 x4 x5 x6 x7:Int):eX ((((((((W.setCell ⟨C,0,none⟩ (I J x0)).setCell ⟨C,1,none⟩ (I J x1)).setCell ⟨C,2,none⟩ (I J x2)).setCell ⟨C,3,none⟩ (I J x3)).setCell ⟨C,4,none⟩ (I J x4)).setCell ⟨C,5,none⟩ (I J x5)).setCell ⟨C,6,none⟩ (I J x6)).setCell ⟨C,7,none⟩ (I J x7)) B vs:=
 (((((((h.other hne 0 _).other hne 1 _).other hne 2 _).other hne 3 _).other hne 4 _).other hne 5 _).other hne 6 _).other hne 7 _
theorem IU(s:ByteArray)(w:World)(h0:s.size=0):Calls prog 58 #[L s] w fun e w'=>e=Y (H #[fP (rV (aR s)),I J (rC (aR s))])/\Below w.heap.size w w':=by
 rw[LP h0];show Calls _ _ _ _ fun e w'=>e=Y (H #[E #[I J 0,L ⟨#[]⟩,I J 0,I J 0,I J 0,I J 0,I J 0,I J 0,I J 0,I J 0,I J 0],I J 1])/\Below w.heap.size w w'
 have hem:=aS h0;clear h0;go_enter func58,ntmps58;go_wp2_with fail;go_returns;exact ⟨rfl,by go_grown⟩
theorem IV(s:ByteArray)(w:World)(hs:s.size<=1048576)(hp:0<s.size)(h9: ¬s[0].toNat=91):Calls prog 58 #[L s] w fun e w'=>e=Y (H #[fP (rV (aR s)),I J (rC (aR s))])/\Below w.heap.size w w':=by
 rw[vZ hp h9];have hem:=aW hp;obtain ⟨d,hd⟩: ∃d:Nat,s[0].toNat=d:=⟨_,rfl⟩;have q0:((d:Int)==91)=false:=beq_eq_false_iff_ne.2 om;have hus:=Nat.le_trans (TL s) hs;obtain ⟨O,hO⟩: ∃O,O=(w.alloc (Z #[I J 0,L ⟨#[]⟩,I J 0,I J 0,I J 0,I J 0,I J 0,I J 0,I J 0,I J 0,I J 0] 26)).alloc (Z #[I J 0,L ⟨#[]⟩,I J 0,I J 0,I J 0,I J 0,I J 0,I J 0,I J 0,I J 0,I J 0] 26):=⟨_,rfl⟩;have HL:Hid (∀W,Below O.heap.size O W->Ej w W):=fun W h=>by rw[hO]at h;exact Lk w W _ h
 have HE:Hid (∀W,Below O.heap.size O W->Below w.heap.size w W):=fun W h=>by
  rw[hO]at h;exact (((zi _ w).alloc (zc _) _).alloc j2 _).trans (h.mono (by simp;omega))
 have CU:Hid (Calls prog 115 #[L s] O fun e w'=>e=Y (L (unB s))/\Hid (Below O.heap.size O w')):=KG s O om;have CN:Hid (∀W,Below O.heap.size O W->Calls prog 86 #[L (unB s)] W fun e w'=>e=Y (dW (cX (unB s)))/\Hid (Below O.heap.size O w')):=fun W hb=>(II (unB s) W hus).mono fun e w' h=>⟨h.1,hb.trans (h.2.mono hb.size)⟩
 have HZ0:Hid (gW s=match cX (unB s)with
  |none=> .bad 3
  |some n=>jY n):=rfl
 have HNL:Hid (∀n,cX (unB s)=some n->n.length<=253):=fun n hn=>(xY hn)
 generalize unB s=u at CU CN HZ0 HNL;clear hus h9
 cases hn:cX u with
 |none=>
  have HZ:Hid (gW s=.bad 3):=by
   show _=_;rw[HZ0.out,hn]
  rw[HZ.out];show Calls _ _ _ _ fun e w'=>e=Y (H #[E #[I J 0,L ⟨#[]⟩,I J 0,I J 0,I J 0,I J 0,I J 0,I J 0,I J 0,I J 0,I J 0],I J 3])/\Below w.heap.size w w'
  rw[hn,show dW none=H #[L ⟨#[]⟩,G false] from rfl]at CN;clear hn HZ0 HNL HZ;go_enter func58,ntmps58;go_wp2_with fail;rw[<-hO];refine CU.out.mono ?_;rintro e w1 ⟨rfl,b1⟩;go_wp2_with fail;refine (CN.out _ b1.out).mono ?_;rintro e w2 ⟨rfl,b2⟩;have hl3:=HL.out w2 b2.out;have HR:Hid (eX w2 w.heap.size (bD 0 ⟨#[]⟩ 0 0 0 0 0 0 0 0 0)):=cH hl3.1;have BW:Hid (Below w.heap.size w w2):=HE.out _ b2.out;obtain ⟨⟨c0,c1,c2,c3,c4,c5,c6,c7,c8,c9,c10⟩,⟨d0,d1,d2,d3,d4,d5,d6,d7,d8,d9,d10⟩,fz⟩:=hl3;go_wp2_with fail;refine bodyPost_ret (gT rfl _ _ w.heap.size _ 0 0 ⟨#[]⟩ 0 0 0 0 0 0 0 0 rfl rfl (bO HR.out 0 0 ⟨#[]⟩ 0 0 0 0 0 0 0 0)) rfl ⟨rfl,gS BW.out (zc _) 0 0 ⟨#[]⟩ 0 0 0 0 0 0 0 0⟩
 |some n=>
  have hl:=HNL.out n hn;have HZ1:Hid (gW s=jY n):=by
   show _=_;rw[HZ0.out,hn]
  rw[hn,show dW (some n)=H #[L ⟨n.toArray⟩,G true] from rfl]at CN;have hns:(⟨n.toArray⟩:ByteArray).size<=1048576:=by
   show n.toArray.size<=_;rw[zd];omega
  have CE:Hid (∀W,Below O.heap.size O W->Calls prog 87 #[L ⟨n.toArray⟩] W fun e w'=>e=Y (G (nD ⟨n.toArray⟩))/\Hid (Below O.heap.size O w')):=fun W hb=>(qK _ W hns).mono fun e w' h=>⟨h.1,hb.trans (h.2.mono hb.size)⟩
  have CL:Hid (∀W,Below O.heap.size O W->Calls prog 116 #[L ⟨n.toArray⟩] W fun e w'=>e=Y (fL (loA ⟨n.toArray⟩))/\Hid (Below O.heap.size O w')):=fun W hb=>(NT _ W hns).mono fun e w' h=>⟨h.1,hb.trans (h.2.mono hb.size)⟩
  have HM:Hid (jY n=if nD ⟨n.toArray⟩=true then (match loA ⟨n.toArray⟩with
   |none=> .bad 4
   |some v=> .fo v)else .nm n):=rfl
  have HMV:Hid (fP (rV (.nm n))=E #[I J 1,L ⟨n.toArray⟩,I J 0,I J 0,I J 0,I J 0,I J 0,I J 0,I J 0,I J 0,I J 0]):=rfl;generalize (⟨n.toArray⟩:ByteArray)=T at CN CE CL HM HMV;clear hn HZ0 HNL hl hns
  cases he:nD T with
  |false=>
   have HZ:Hid (gW s=.nm n):=by
    show _=_;rw[HZ1.out,HM.out,he,if_neg de]
   rw[HZ.out,HMV.out,show rC (.nm n)=0 from rfl];rw[he]at CE;clear he HZ1 HM CL HZ HMV;go_enter func58,ntmps58;go_wp2_with fail;rw[<-hO];refine CU.out.mono ?_;rintro e w1 ⟨rfl,b1⟩;go_wp2_with fail;refine (CN.out _ b1.out).mono ?_;rintro e w2 ⟨rfl,b2⟩;go_wp2_with fail;refine (CE.out _ b2.out).mono ?_;rintro e w3 ⟨rfl,b3⟩;have hl3:=HL.out w3 b3.out;have HR:Hid (eX w3 w.heap.size (bD 0 ⟨#[]⟩ 0 0 0 0 0 0 0 0 0)):=cH hl3.1;have BW:Hid (Below w.heap.size w w3):=HE.out _ b3.out;obtain ⟨⟨c0,c1,c2,c3,c4,c5,c6,c7,c8,c9,c10⟩,⟨d0,d1,d2,d3,d4,d5,d6,d7,d8,d9,d10⟩,fz⟩:=hl3;go_wp2_with fail;refine bodyPost_ret (gT rfl _ _ w.heap.size _ 1 0 T 0 0 0 0 0 0 0 0 rfl rfl (bO HR.out 1 0 T 0 0 0 0 0 0 0 0)) rfl ⟨rfl,gS BW.out (zc _) 1 0 T 0 0 0 0 0 0 0 0⟩
  |true=>
   rw[he]at CE
   cases hlo:loA T with
   |none=>
    have HZ:Hid (gW s=.bad 4):=by
     show _=_;rw[HZ1.out,HM.out,he,if_pos rfl,hlo]
    rw[HZ.out];show Calls _ _ _ _ fun e w'=>e=Y (H #[E #[I J 0,L ⟨#[]⟩,I J 0,I J 0,I J 0,I J 0,I J 0,I J 0,I J 0,I J 0,I J 0],I J 4])/\Below w.heap.size w w'
    rw[hlo,show fL none=H #[I J 0,G false] from rfl]at CL;clear he hlo HZ1 HM HMV HZ;go_enter func58,ntmps58;go_wp2_with fail;rw[<-hO];refine CU.out.mono ?_;rintro e w1 ⟨rfl,b1⟩;go_wp2_with fail;refine (CN.out _ b1.out).mono ?_;rintro e w2 ⟨rfl,b2⟩;go_wp2_with fail;refine (CE.out _ b2.out).mono ?_;rintro e w3 ⟨rfl,b3⟩;go_wp2_with fail;refine (CL.out _ b3.out).mono ?_;rintro e w4 ⟨rfl,b4⟩;have hl3:=HL.out w4 b4.out;have HR:Hid (eX w4 w.heap.size (bD 0 ⟨#[]⟩ 0 0 0 0 0 0 0 0 0)):=cH hl3.1;have BW:Hid (Below w.heap.size w w4):=HE.out _ b4.out;obtain ⟨⟨c0,c1,c2,c3,c4,c5,c6,c7,c8,c9,c10⟩,⟨d0,d1,d2,d3,d4,d5,d6,d7,d8,d9,d10⟩,fz⟩:=hl3;go_wp2_with fail;refine bodyPost_ret (gT rfl _ _ w.heap.size _ 0 0 ⟨#[]⟩ 0 0 0 0 0 0 0 0 rfl rfl (bO HR.out 0 0 ⟨#[]⟩ 0 0 0 0 0 0 0 0)) rfl ⟨rfl,gS BW.out (zc _) 0 0 ⟨#[]⟩ 0 0 0 0 0 0 0 0⟩
   |some v=>
    have HZ:Hid (gW s=.fo v):=by
     show _=_;rw[HZ1.out,HM.out,he,if_pos rfl,hlo]
    rw[HZ.out];obtain ⟨y,hy⟩: ∃y:Int,(v:Int)=y:=⟨_,rfl⟩;show Calls _ _ _ _ fun e w'=>e=Y (H #[E #[I J 2,L ⟨#[]⟩,I J (v:Int),I J 0,I J 0,I J 0,I J 0,I J 0,I J 0,I J 0,I J 0],I J 0])/\Below w.heap.size w w'
    rw[hlo,show fL (some v)=H #[I J (v:Int),G true] from rfl,hy]at CL;rw[hy];clear he hlo HZ1 HM HMV HZ hy;go_enter func58,ntmps58;go_wp2_with fail;rw[<-hO];refine CU.out.mono ?_;rintro e w1 ⟨rfl,b1⟩;go_wp2_with fail;refine (CN.out _ b1.out).mono ?_;rintro e w2 ⟨rfl,b2⟩;go_wp2_with fail;refine (CE.out _ b2.out).mono ?_;rintro e w3 ⟨rfl,b3⟩;go_wp2_with fail;refine (CL.out _ b3.out).mono ?_;rintro e w4 ⟨rfl,b4⟩;have hl3:=HL.out w4 b4.out;have HR:Hid (eX w4 w.heap.size (bD 0 ⟨#[]⟩ 0 0 0 0 0 0 0 0 0)):=cH hl3.1;have BW:Hid (Below w.heap.size w w4):=HE.out _ b4.out;obtain ⟨⟨c0,c1,c2,c3,c4,c5,c6,c7,c8,c9,c10⟩,⟨d0,d1,d2,d3,d4,d5,d6,d7,d8,d9,d10⟩,fz⟩:=hl3;go_wp2_with fail;refine bodyPost_ret (gT rfl _ _ w.heap.size _ 2 y ⟨#[]⟩ 0 0 0 0 0 0 0 0 rfl rfl (bO HR.out 2 y ⟨#[]⟩ 0 0 0 0 0 0 0 0)) rfl ⟨rfl,gS BW.out (zc _) 2 y ⟨#[]⟩ 0 0 0 0 0 0 0 0⟩
theorem pJ{W:World}{B:Nat}(h:eX W B (bD 0 ⟨#[]⟩ 0 0 0 0 0 0 0 0 0)):qV W B:=⟨h 0 _ rfl,h 1 _ rfl,h 2 _ rfl,h 3 _ rfl,h 4 _ rfl,h 5 _ rfl,h 6 _ rfl,h 7 _ rfl,h 8 _ rfl,h 9 _ rfl,h 10 _ rfl⟩
theorem IW(s:ByteArray)(w:World)(hs:s.size<=1048576)(hp:0<s.size)(h9:s[0].toNat=91):Calls prog 58 #[L s] w fun e w'=>e=Y (H #[fP (rV (aR s)),I J (rC (aR s))])/\Below w.heap.size w w':=by
 rw[LQ hp h9];have hem:=aW hp;have hi:((s.size:Int)-1)=((s.size-1:Nat):Int):=om;obtain ⟨c,hc⟩: ∃c:Nat,(s[s.size-1]'om).toNat=c:=⟨_,rfl⟩
 by_cases hcl:c=93
 .have h1:1<s.size:=by
   rcases Nat.lt_or_ge 1 s.size with h|h
   .exact h
   exfalso
   have e:s.size=1:=om
   have:(s[s.size-1]'om).toNat=s[0].toNat:=by congr 2;omega
   omega
  have HZ1:Hid (iI (s.extract 1 s.size).data.toList=LO (eK (s.extract 1 (s.size-1)).data.toList)):=by
   show _=_;rw[MS (by rw[Ek h1];congr 1;exact mP (hc.trans hcl)),Mt h1]
  have hts:(s.extract 1 (s.size-1)).size<=1048576:=by rw[zf];omega
  obtain ⟨O,hO⟩: ∃O,O=(w.alloc (Z #[I J 0,L ⟨#[]⟩,I J 0,I J 0,I J 0,I J 0,I J 0,I J 0,I J 0,I J 0,I J 0] 26)).alloc (Z #[I J 0,L ⟨#[]⟩,I J 0,I J 0,I J 0,I J 0,I J 0,I J 0,I J 0,I J 0,I J 0] 26):=⟨_,rfl⟩;have HL:Hid (∀W,Below O.heap.size O W->Ej w W):=fun W h=>by rw[hO]at h;exact Lk w W _ h
  have HE:Hid (∀W,Below O.heap.size O W->Below w.heap.size w W):=fun W h=>by
   rw[hO]at h;exact (((zi _ w).alloc (zc _) _).alloc j2 _).trans (h.mono (by simp;omega))
  obtain ⟨P,hP⟩: ∃P,P=O.alloc (Z #[I J 0,I J 0,I J 0,I J 0,I J 0,I J 0,I J 0,I J 0] 24):=⟨_,rfl⟩;have HPO:Hid (∀W,Below P.heap.size P W->Below O.heap.size O W):=fun W h=>by
   rw[hP]at h;exact ((zi _ O).alloc (zc _) _).trans (h.mono j2)
  have HPZ:Hid (∀W,Below P.heap.size P W->eN W (w.heap.size+1+1) [0,0,0,0,0,0,0,0]):=fun W h=>by
   rw[hP]at h;have h2:=(uC O).later h
   rwa[show O.heap.size=w.heap.size+1+1 by rw[hO];simp]at h2
  have CP:Hid (Calls prog 114 #[L (s.extract 1 (s.size-1))] P fun e w'=>e=Y (kK (eK (s.extract 1 (s.size-1)).data.toList))/\Hid (Below P.heap.size P w')):=OY _ P hts;have H8:Hid (∀gs,eK (s.extract 1 (s.size-1)).data.toList=some gs->gs.length=8):=rR _;rw[HZ1.out];subst hcl;have h1i:1<=(s.size:Int)-1:=om;have h2i:(s.size:Int)-1<=(s.size:Int):=om;generalize eK (s.extract 1 (s.size-1)).data.toList=R at CP H8;clear HZ1 hts
  cases R with
  |none=>
   show Calls _ _ _ _ fun e w'=>e=Y (H #[E #[I J 0,L ⟨#[]⟩,I J 0,I J 0,I J 0,I J 0,I J 0,I J 0,I J 0,I J 0,I J 0],I J 2])/\Below w.heap.size w w'
   go_enter func58,ntmps58;go_wp2_with fail;rw[<-hO,<-hP];refine CP.out.mono ?_;rintro e w1 ⟨rfl,b1⟩;rw[show kK none=H #[E #[I J 0,I J 0,I J 0,I J 0,I J 0,I J 0,I J 0,I J 0],G false] from rfl];have AR:=HPZ.out _ b1.out;obtain ⟨w9,h9⟩: ∃w9,w9=((((((((w1.setCell ⟨w.heap.size+1+1,0,none⟩ (I J 0)).setCell ⟨w.heap.size+1+1,1,none⟩ (I J 0)).setCell ⟨w.heap.size+1+1,2,none⟩ (I J 0)).setCell ⟨w.heap.size+1+1,3,none⟩ (I J 0)).setCell ⟨w.heap.size+1+1,4,none⟩ (I J 0)).setCell ⟨w.heap.size+1+1,5,none⟩ (I J 0)).setCell ⟨w.heap.size+1+1,6,none⟩ (I J 0)).setCell ⟨w.heap.size+1+1,7,none⟩ (I J 0)):=⟨_,rfl⟩;have H9:Hid (w9=_):=h9;have hl3:=HL.out w1 (HPO.out _ b1.out);have HR:Hid (eX w9 w.heap.size (bD 0 ⟨#[]⟩ 0 0 0 0 0 0 0 0 0)):=by rw[h9];exact EI (cH hl3.1) om 0 0 0 0 0 0 0 0
   have HR1:eX w9 (w.heap.size+1) (bD 0 ⟨#[]⟩ 0 0 0 0 0 0 0 0 0):=by rw[h9];exact EI (cH hl3.2.1) om 0 0 0 0 0 0 0 0
   have BW:Hid (Below w.heap.size w w9):=by rw[h9];exact cG (HE.out _ (HPO.out _ b1.out)) om 0 0 0 0 0 0 0 0
   have AR9:Hid (eN w9 (w.heap.size+1+1) [0,0,0,0,0,0,0,0]):=by rw[h9];exact dI AR 0 0 0 0 0 0 0 0
   have fz: ∀j,w9.frozen? ⟨w.heap.size,j,none⟩=false:=fun j=>by rw[h9];simp only[zk];exact hl3.2.2 j
   obtain ⟨c0,c1,c2,c3,c4,c5,c6,c7,c8,c9,c10⟩:=pJ HR.out;obtain ⟨d0,d1,d2,d3,d4,d5,d6,d7,d8,d9,d10⟩:=pJ HR1;clear hl3 h9 HR1;have a0:=(AR.2 0 de).1;have a1:=(AR.2 1 de).1;have a2:=(AR.2 2 de).1;have a3:=(AR.2 3 de).1;have a4:=(AR.2 4 de).1;have a5:=(AR.2 5 de).1;have a6:=(AR.2 6 de).1;have a7:=(AR.2 7 de).1;have g0:=(AR.2 0 de).2;have g1:=(AR.2 1 de).2;have g2:=(AR.2 2 de).2;have g3:=(AR.2 3 de).2;have g4:=(AR.2 4 de).2;have g5:=(AR.2 5 de).2;have g6:=(AR.2 6 de).2;have g7:=(AR.2 7 de).2;simp only[zg,zh]at a0 a1 a2 a3 a4 a5 a6 a7;clear AR;go_wp2_with (rw[<-H9.out]);refine bodyPost_ret (gT rfl _ _ w.heap.size _ 0 0 ⟨#[]⟩ 0 0 0 0 0 0 0 0 rfl rfl (bO HR.out 0 0 ⟨#[]⟩ 0 0 0 0 0 0 0 0)) rfl ⟨rfl,gS BW.out (zc _) 0 0 ⟨#[]⟩ 0 0 0 0 0 0 0 0⟩
  |some gs=>
   obtain ⟨x0,x1,x2,x3,x4,x5,x6,x7,hv,_,hx⟩:=K4 (H8.out gs rfl);rw[hv]at CP;have HV:Hid (fP (rV (LO (some gs)))=E #[I J 3,L ⟨#[]⟩,I J 0,I J x0,I J x1,I J x2,I J x3,I J x4,I J x5,I J x6,I J x7]):=by
    show fP ⟨3,⟨#[]⟩,0,gs.map fun (x:Nat)=>(x:Int)⟩=_;rw[hx];rfl
   rw[HV.out,show rC (LO (some gs))=0 from rfl];clear hv hx H8 HV;go_enter func58,ntmps58;go_wp2_with fail;rw[<-hO,<-hP];refine CP.out.mono ?_;rintro e w1 ⟨rfl,b1⟩;have AR:=HPZ.out _ b1.out;obtain ⟨w9,h9⟩: ∃w9,w9=((((((((w1.setCell ⟨w.heap.size+1+1,0,none⟩ (I J x0)).setCell ⟨w.heap.size+1+1,1,none⟩ (I J x1)).setCell ⟨w.heap.size+1+1,2,none⟩ (I J x2)).setCell ⟨w.heap.size+1+1,3,none⟩ (I J x3)).setCell ⟨w.heap.size+1+1,4,none⟩ (I J x4)).setCell ⟨w.heap.size+1+1,5,none⟩ (I J x5)).setCell ⟨w.heap.size+1+1,6,none⟩ (I J x6)).setCell ⟨w.heap.size+1+1,7,none⟩ (I J x7)):=⟨_,rfl⟩;have H9:Hid (w9=_):=h9;have hl3:=HL.out w1 (HPO.out _ b1.out);have HR:Hid (eX w9 w.heap.size (bD 0 ⟨#[]⟩ 0 0 0 0 0 0 0 0 0)):=by rw[h9];exact EI (cH hl3.1) om x0 x1 x2 x3 x4 x5 x6 x7
   have HR1:eX w9 (w.heap.size+1) (bD 0 ⟨#[]⟩ 0 0 0 0 0 0 0 0 0):=by rw[h9];exact EI (cH hl3.2.1) om x0 x1 x2 x3 x4 x5 x6 x7
   have BW:Hid (Below w.heap.size w w9):=by rw[h9];exact cG (HE.out _ (HPO.out _ b1.out)) om x0 x1 x2 x3 x4 x5 x6 x7
   have AR9:Hid (eN w9 (w.heap.size+1+1) [x0,x1,x2,x3,x4,x5,x6,x7]):=by rw[h9];exact dI AR x0 x1 x2 x3 x4 x5 x6 x7
   have fz: ∀j,w9.frozen? ⟨w.heap.size,j,none⟩=false:=fun j=>by rw[h9];simp only[zk];exact hl3.2.2 j
   obtain ⟨c0,c1,c2,c3,c4,c5,c6,c7,c8,c9,c10⟩:=pJ HR.out;obtain ⟨d0,d1,d2,d3,d4,d5,d6,d7,d8,d9,d10⟩:=pJ HR1;clear hl3 h9 HR1;have a0:=(AR.2 0 de).1;have a1:=(AR.2 1 de).1;have a2:=(AR.2 2 de).1;have a3:=(AR.2 3 de).1;have a4:=(AR.2 4 de).1;have a5:=(AR.2 5 de).1;have a6:=(AR.2 6 de).1;have a7:=(AR.2 7 de).1;have g0:=(AR.2 0 de).2;have g1:=(AR.2 1 de).2;have g2:=(AR.2 2 de).2;have g3:=(AR.2 3 de).2;have g4:=(AR.2 4 de).2;have g5:=(AR.2 5 de).2;have g6:=(AR.2 6 de).2;have g7:=(AR.2 7 de).2;simp only[zg,zh]at a0 a1 a2 a3 a4 a5 a6 a7;clear AR;have AR:=AR9.out;have b0:=(AR.2 0 de).1;have b1:=(AR.2 1 de).1;have b2:=(AR.2 2 de).1;have b3:=(AR.2 3 de).1;have b4:=(AR.2 4 de).1;have b5:=(AR.2 5 de).1;have b6:=(AR.2 6 de).1;have b7:=(AR.2 7 de).1;simp only[zg,zh]at b0 b1 b2 b3 b4 b5 b6 b7;clear AR;go_wp2_with (rw[<-H9.out]);refine bodyPost_ret (gT rfl _ _ w.heap.size _ 3 0 ⟨#[]⟩ x0 x1 x2 x3 x4 x5 x6 x7 rfl rfl (bO HR.out 3 0 ⟨#[]⟩ x0 x1 x2 x3 x4 x5 x6 x7)) rfl ⟨rfl,gS BW.out (zc _) 3 0 ⟨#[]⟩ x0 x1 x2 x3 x4 x5 x6 x7⟩
 have HZ1:Hid (iI (s.extract 1 s.size).data.toList=.bad 2):=by
  by_cases h1:1<s.size
  .refine IM ?_
   rw[Ek h1];intro e;have e2:=Option.some.inj e;apply hcl;rw[<-hc,e2];rfl
  refine IM ?_;rw[nil_r h1];simp
 have q0:((c:Int)==93)=false:=beq_eq_false_iff_ne.2 om;rw[HZ1.out];show Calls _ _ _ _ fun e w'=>e=Y (H #[E #[I J 0,L ⟨#[]⟩,I J 0,I J 0,I J 0,I J 0,I J 0,I J 0,I J 0,I J 0,I J 0],I J 2])/\Below w.heap.size w w'
 clear HZ1 hcl;go_enter func58,ntmps58;go_wp2_with fail;go_returns;exact ⟨rfl,by go_grown⟩
theorem vH(s:ByteArray)(w:World)(hs:s.size<=1048576):Calls prog 58 #[L s] w fun e w'=>e=Y (H #[fP (rV (aR s)),I J (rC (aR s))])/\Below w.heap.size w w':=by
 by_cases h0:s.size=0
 .exact IU s w h0
 have hp:0<s.size:=om
 by_cases h9:s[0].toNat=91
 .exact IW s w hs hp h9
 exact IV s w hs hp h9
