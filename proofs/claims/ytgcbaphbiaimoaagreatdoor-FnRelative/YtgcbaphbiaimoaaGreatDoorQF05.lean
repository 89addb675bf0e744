/- Ip6Plain, HexImpl, LaidBru, LaidHost, LetWalk, KeepWalk, LaidMarks. -/
import Derived.Test.YtgcbaphbiaimoaaGreatDoorQF04
import Derived.OpenVars
set_option maxHeartbeats 4000000
set_option maxRecDepth 20000
namespace Go.Proofs.YtgcbaphbiaimoaaGreatDoor
open _root_.Array renaming getElem?_setIfInBounds->zh
open _root_.Go.RowKit.Below renaming refl->zl
open _root_.Bool renaming false_eq_true->zv
open _root_.Int renaming eq_ofNat_of_zero_le->zq
open _root_.List renaming append_assoc->zw,cons_append->zc,getElem?_map->zx,getElem_append_left->zk,getElem_append_right->zm,length_append->zd,length_cons->zp,length_drop->zo,length_take->zn,map_cons->zj,mem_cons->zi,mem_cons_of_mem->ze,mem_cons_self->za,nil_append->zg,not_mem_nil->zf,range->z0
open _root_.Nat renaming le_refl->zt
open _root_.Option renaming map_none->zz,map_some->zs,some->zy
open _root_.Go.World renaming block_lt_of_cell?->zr,cell?_of_block->zu
open _root_.Go.Proofs.Tryz
open _root_.Go.Proofs.YtgcbaphbiaimoaaGreatDoor.Tryz
section
open Go.RowKit
def hxU(i:Nat):UInt8:=UInt8.ofNat (if i<10 then 48+i else 87+i)
def bQ(n:Nat):List UInt8:=if n<16 then [hxU n]else if n<256 then [hxU (n/16),hxU (n%16)]else if n<4096 then [hxU (n/256),hxU (n/16%16),hxU (n%16)]else [hxU (n/4096),hxU (n/256%16),hxU (n/16%16),hxU (n%16)]
theorem Co: ∀i,i<16->bE (hxU i).toNat=(i:Int):=by decide+kernel
theorem LB: ∀i,i<16->hxU i≠58/\hxU i≠46:=by decide+kernel
theorem kJ{i n:Nat}(h:i<16)(r:List UInt8):eU 16 n (hxU i::r)=eU 16 (n*16+i) r:=by
 rw[eU,Co i h,if_pos om];rfl
theorem L8{n:Nat}(h:n<65536):cU 16 4 (bQ n)=some n:=by
 unfold bQ cU;split
 .rw[if_pos j2,kJ om,eU]
  congr 1
  omega
 split
 .rw[if_pos j2,kJ om,kJ om,eU]
  congr 1
  omega
 split
 .rw[if_pos j2,kJ om,kJ om,kJ om,eU]
  congr 1
  omega
 rw[if_pos j2,kJ om,kJ om,kJ om,kJ om,eU]
 congr 1
 omega
theorem sP{n:Nat}(h:n<65536): ∀c∈bQ n,c≠58/\c≠46:=by
 intro c hc;unfold bQ at hc;split at hc
 .simp only[zi,zf,or_false]at hc
  subst hc;exact LB _ om
 split at hc
 .simp only[zi,zf,or_false]at hc
  rcases hc with rfl|rfl<;>exact LB _ om
 split at hc
 .simp only[zi,zf,or_false]at hc
  rcases hc with rfl|rfl|rfl<;>exact LB _ om
 simp only[zi,zf,or_false]at hc
 rcases hc with rfl|rfl|rfl|rfl<;>exact LB _ om
theorem nC(n:Nat):1<=(bQ n).length/\(bQ n).length<=4:=by
 unfold bQ;split
 .simp
 split
 .simp
 split<;>simp
theorem LC(n:Nat):(bQ n).isEmpty=false:=by
 have:=(nC n).1
 cases h:bQ n with
 |nil=>rw[h]at this;simp at this
 |cons _ _=>rfl
theorem BY(n:Nat):bQ n≠[]:=by
 intro e;have h:=LC n;rw[e]at h
 cases h
def cH:List UInt8->Option (List UInt8×List UInt8)
 |[]=>none
 |c::r=>if c=58/\r.head? =some 58 then some ([],r.tail)else (cH r).map fun p=>(c::p.1,p.2)
theorem AP: ∀{l:List UInt8},(∀c∈l,c≠58)->cH l=none
 |[],_=>rfl
 |c::r,h=>by
  rw[cH,if_neg (fun e=>h c za e.1),AP (fun d hd=>h d (ze _ hd))];rfl
theorem vO{x:List UInt8}(hx:cH x=none)(hne:x.head? ≠some 58): ∀p,cH (p++x)=(cH p).map fun q=>(q.1,q.2++x)
 |[]=>by rw[zg,hx];rfl
 |[c]=>by
  rw[zc,zg,cH,if_neg (fun e=>hne e.2),hx];simp[cH]
 |c::d::r=>by
  have ih:=vO hx hne (d::r);rw[zc,cH,cH]
  by_cases h:c=58/\d=58
  .rw[if_pos (by simpa using h),if_pos (by simpa using h)]
   simp
  rw[if_neg (by simpa using h),if_neg (by simpa using h),ih]
  cases cH (d::r)<;>rfl
theorem vP(y:List UInt8): ∀{p:List UInt8},(∀c∈p,c≠58)->cH (p++y)=(cH y).map fun q=>(p++q.1,q.2)
 |[],_=>by
  rw[zg]
  cases cH y<;>rfl
 |c::r,h=>by
  rw[zc,cH,if_neg (fun e=>h c za e.1),vP y (fun d hd=>h d (ze _ hd))]
  cases cH y<;>rfl
theorem uH: ∀{l a b:List UInt8},cH l=some (a,b)->l=a++58::58::b
 |[],_,_,h=>by cases h
 |c::r,a,b,h=>by
  rw[cH]at h;split at h
  .rename_i hc
   cases h
   obtain ⟨rfl,hr⟩:=hc
   cases r with
   |nil=>simp at hr
   |cons d q=>simp at hr;subst hr;rfl
  cases hr:cH r with
  |none=>rw[hr]at h;cases h
  |some p=>
   rw[hr]at h
   cases h
   rw[zc,<-uH (a:=p.1) (b:=p.2) hr]
def BZ(x:List UInt8):Prop:=x≠[]/\ ∀c∈x,c≠58
theorem LD{b:UInt8}{x:List UInt8}{r:List (List UInt8)}(hx:BZ x):(jl b (x::r)).head? ≠some 58:=by
 obtain ⟨h1,h2⟩:=hx
 cases x with
 |nil=>exact absurd rfl h1
 |cons c q=>
  have hc:=h2 c za
  cases r<;>simp[jl,hc]
theorem TY: ∀{fs:List (List UInt8)},(∀x∈fs,BZ x)->cH (jl 58 fs)=none
 |[],_=>rfl
 |[x],h=>AP (h x za).2
 |x::y::r,h=>by
  have ih:=TY (fs:=y::r) fun z hz=>h z (ze _ hz)
  rw[jl,vP _ (h x za).2,cH,if_neg (fun e=>LD (h y j2) e.2),ih];rfl
theorem OC(B:List UInt8): ∀{fs:List (List UInt8)},(∀x∈fs,BZ x)->cH (jl 58 fs++58::58::B)=some (jl 58 fs,B)
 |[],_=>by simp[jl,cH]
 |[x],h=>by
  rw[jl,vP _ (h x za).2,cH,if_pos j2];simp
 |x::y::r,h=>by
  have ih:=OC B (fs:=y::r) fun z hz=>h z (ze _ hz)
  have hh:=LD (b:=58) (r:=r) (h y j2);rw[jl,zw,vP _ (h x za).2,zc,cH,if_neg ?_,ih]
  .rfl
  intro e;apply hh
  cases hj:jl 58 (y::r)with
  |nil=>
   have h1:=h y j2
   cases r<;>simp[jl]at hj
   exact absurd hj h1.1
  |cons c q=>
   rw[hj]at e;simpa using e.2
def g16(x:List UInt8):Option Nat:=if x.isEmpty then none else cU 16 4 x
def grp(t:Bool):List (List UInt8)->Option (List Nat)
 |[]=>some []
 |x::r=>match (if t&&r.isEmpty then p4 x else none)with
  |some n=>some [n/65536,n%65536]
  |none=>match g16 x with
   |none=>none
   |some v=>(grp t r).map (v:: ·)
def cX(t:Bool)(l:List UInt8):Option (List Nat):=if l.isEmpty then some []else grp t (spl 58 l)
def iA(a b:List Nat):List Nat:=a++List.replicate (8-a.length-b.length) 0++b
def dQ(l:List UInt8):Option (List Nat):=match cH l with
 |none=>match cX true l with
  |none=>none
  |some g=>if g.length=8 then some g else none
 |some (a,b)=>match cX false a,cX true b with
  |some x,some y=>if x.length+y.length<=7 then some (iA x y)else none
  |_,_=>none
def rO(l:List UInt8):Option (List Nat):=match cH l with
 |none=>match cX false l with
  |none=>none
  |some g=>if g.length=8 then some g else none
 |some (a,b)=>match cX false a,cX false b with
  |some x,some y=>if x.length+y.length<=7 then some (iA x y)else none
  |_,_=>none
def nD(n:Nat):List UInt8:=jl 58 [bQ (n/65536),bQ (n%65536)]
def OD(y:List UInt8):Option (List Nat):=match p4 y with
 |some n=>some [n/65536,n%65536]
 |none=>(g16 y).map fun v=>[v]
theorem iH(x:List UInt8)(r:List (List UInt8)):grp false (x::r)=match g16 x with
  |none=>none
  |some v=>(grp false r).map (v:: ·):=by
 rw[grp];rfl
theorem LE: ∀xs ys,grp false (xs++ys)=(grp false xs).bind fun g=>(grp false ys).map (g++ ·)
 |[],ys=>by
  rw[zg,grp]
  cases grp false ys<;>rfl
 |x::r,ys=>by
  rw[zc,iH,iH,LE r ys]
  cases g16 x<;>cases grp false r<;>cases grp false ys<;>rfl
theorem CY: ∀xs y,grp true (xs++[y])=(grp false xs).bind fun g=>(OD y).map (g++ ·)
 |[],y=>by
  rw[zg,grp];simp only[List.isEmpty_nil,Bool.and_self,if_true,grp,OD,Option.bind_some]
  cases p4 y<;>cases g16 y<;>rfl
 |x::r,y=>by
  rw[zc,grp,iH,CY r y];simp only[show (r++[y]).isEmpty=false by cases r<;>rfl,Bool.and_false,zv,if_false]
  cases g16 x<;>cases grp false r<;>cases OD y<;>rfl
def rP(b:List UInt8):Prop:=b=[]∨ ∃q,b=q++[58]
theorem OE{b:List UInt8}(h:rP b): ∃xs,∀x,spl 58 (b++x)=xs++spl 58 x:=by
 rcases h with rfl|⟨q,rfl⟩
 .exact ⟨[],fun x=>rfl⟩
 exact ⟨spl 58 q,fun x=>by rw[zw,zc,zg,AL]⟩
theorem L9{n:Nat}(h:n<4294967296):spl 58 (nD n)=[bQ (n/65536),bQ (n%65536)]:=by
 refine xS 58 j2 ?_;intro x hx;simp only[zi,zf,or_false]at hx
 rcases hx with rfl|rfl
 .exact fun c hc=>(sP om c hc).1
 exact fun c hc=>(sP om c hc).1
theorem LF{n:Nat}(h:n<65536):g16 (bQ n)=some n:=by
 unfold g16;rw[LC,L8 h];rfl
theorem Cp{n:Nat}(h:n<4294967296):grp false [bQ (n/65536),bQ (n%65536)]=some [n/65536,n%65536]:=by
 rw[iH,LF om,iH,LF om,grp];rfl
theorem Gn:p4 []=none:=by rfl
theorem IA{b tl:List UInt8}{n:Nat}(hb:rP b)(h58: ∀c∈tl,c≠58)(h:p4 tl=some n):cX true (b++tl)=cX false (b++nD n):=by
 obtain ⟨xs,hs⟩:=OE hb;have hn:=(nX h).1;have h1:(b++tl).isEmpty=false:=by
  cases tl with
  |nil=>rw[Gn]at h;cases h
  |cons c r=>cases b<;>rfl
 have h2:(b++nD n).isEmpty=false:=by
  have h3:=(nC (n/65536)).1
  cases b with
  |cons c r=>rfl
  |nil=>
   unfold nD
   cases h4:bQ (n/65536)with
   |nil=>rw[h4]at h3;simp at h3
   |cons c r=>rfl
 unfold cX;rw[h1,h2,hs tl,hs (nD n),kV 58 h58,L9 hn,CY,LE,Cp hn];simp only[OD,h]
theorem DA{b tl:List UInt8}(hb:rP b)(h58: ∀c∈tl,c≠58)(h:p4 tl=none):cX true (b++tl)=cX false (b++tl):=by
 obtain ⟨xs,hs⟩:=OE hb;unfold cX;rw[hs tl,kV 58 h58,CY,LE,iH];simp only[OD,h,grp]
 cases g16 tl<;>rfl
theorem OF{p a b:List UInt8}(hp:rP p)(h:cH p=some (a,b)):rP b:=by
 have e:=uH h
 rcases hp with rfl|⟨q,rfl⟩
 .cases h
 by_cases hb:b=[]
 .exact .inl hb
 obtain ⟨b',c,rfl⟩: ∃b' c,b=b'++[c]:=⟨b.dropLast,b.getLast hb,(List.dropLast_concat_getLast hb).symm⟩;have e2:q++[58]=(a++58::58::b')++[c]:=by simp[e]
 have:=(List.append_inj' e2 rfl).2
 cases this
 exact .inr ⟨b',rfl⟩
theorem M0{n:Nat}(h:n<4294967296):cH (nD n)=none/\(nD n).head? ≠some 58:=by
 have hp: ∀x∈[bQ (n/65536),bQ (n%65536)],BZ x:=by
  intro x hx;simp only[zi,zf,or_false]at hx
  rcases hx with rfl|rfl
  .exact ⟨BY _,fun c hc=>(sP om c hc).1⟩
  exact ⟨BY _,fun c hc=>(sP om c hc).1⟩
 exact ⟨TY hp,LD (hp _ j2)⟩
theorem IB{l:List UInt8}(h: ∀c∈l,c≠58):l.head? ≠some 58:=by
 cases l with
 |nil=>simp
 |cons c r=>simpa using h c za
theorem ZO{p tl:List UInt8}{n:Nat}(hp:rP p)(h58: ∀c∈tl,c≠58)(h:p4 tl=some n):rO (p++nD n)=dQ (p++tl):=by
 obtain ⟨t1,t2⟩:=M0 (nX h).1;unfold dQ rO;rw[vO (AP h58) (IB h58),vO t1 t2]
 cases hc:cH p with
 |none=>
  simp only[zz];rw[IA hp h58 h]
 |some ab=>
  obtain ⟨a,b⟩:=ab;simp only[zs];rw[IA (OF hp hc) h58 h]
theorem TZ{p tl:List UInt8}(hp:rP p)(h58: ∀c∈tl,c≠58)(h:p4 tl=none):rO (p++tl)=dQ (p++tl):=by
 unfold dQ rO;rw[vO (AP h58) (IB h58)]
 cases hc:cH p with
 |none=>
  simp only[zz];rw[DA hp h58 h]
 |some ab=>
  obtain ⟨a,b⟩:=ab;simp only[zs];rw[DA (OF hp hc) h58 h]
def gtL(gs:List Nat):List UInt8:=jl 58 (gs.map bQ)
theorem DB{gs:List Nat}(h: ∀g∈gs,g<65536): ∀x∈gs.map bQ,BZ x:=by
 intro x hx;obtain ⟨g,hg,rfl⟩:=List.mem_map.1 hx;exact ⟨BY _,fun c hc=>(sP (h g hg) c hc).1⟩
theorem M1(t:Bool): ∀{gs:List Nat},(∀g∈gs,g<65536)->grp t (gs.map bQ)=some gs
 |[],_=>by cases t<;>rfl
 |g::r,h=>by
  have hg:=h g za;have h4:p4 (bQ g)=none:=by
   unfold p4;rw[kV 46 (fun c hc=>(sP hg c hc).2),if_neg j2]
  rw[zj,grp,h4,M1 t (fun x hx=>h x (ze _ hx)),LF hg];simp
theorem Gp{gs:List Nat}:(gtL gs).isEmpty=gs.isEmpty:=by
 match gs with
 |[]=>rfl
 |[g]=>simpa[gtL,jl] using LC g
 |g::h::r=>
  unfold gtL;rw[zj,zj,jl]
  cases bQ g<;>rfl
theorem LG(t:Bool){gs:List Nat}(h: ∀g∈gs,g<65536):cX t (gtL gs)=some gs:=by
 unfold cX;rw[Gp]
 cases gs with
 |nil=>rfl
 |cons g r=>
  simp only[List.isEmpty_cons,zv,if_false];unfold gtL;rw[xS 58 j2 (fun x hx=>(DB h x hx).2),M1 t h]
def AB(w:List Nat)(f e:Nat):List UInt8:=if e-f<2 then gtL w else gtL (w.take f)++58::58::gtL (w.drop e)
theorem XB{w:List Nat}(hl:w.length=8)(h: ∀g∈w,g<65536):dQ (gtL w)=some w:=by
 unfold dQ;rw[show cH (gtL w)=none from TY (DB h)];simp only;rw[LG true h];simp only[hl,if_true]
theorem ZP{w:List Nat}{f e:Nat}(hl:w.length=8)(h: ∀g∈w,g<65536)(he:e<=8)(hz: ∀i,f<=i->i<e->w.getD i 0=0):dQ (AB w f e)=some w:=by
 unfold AB;split
 .exact XB hl h
 have h1: ∀g∈w.take f,g<65536:=fun g hg=>h g (List.mem_of_mem_take hg)
 have h2: ∀g∈w.drop e,g<65536:=fun g hg=>h g (List.mem_of_mem_drop hg)
 unfold dQ;rw[show cH (gtL (w.take f)++58::58::gtL (w.drop e))=some (gtL (w.take f),gtL (w.drop e)) from OC _ (DB h1)];simp only;rw[LG false h1,LG true h2];simp only[zn,zo];rw[if_pos om]
 congr 1
 unfold iA;apply List.ext_getElem
 .simp;omega
 intro i i1 i2;simp only[zd,zn,List.length_replicate,zo]at i1
 by_cases c1:i<f
 .rw[zk (by simp;omega),zk (by simp;omega),List.getElem_take]
 by_cases c2:i<e
 .rw[zk (by simp;omega),zm (by simp;omega),List.getElem_replicate]
  have:=hz i om c2
  rw[List.getD_eq_getElem?_getD,List.getElem?_eq_getElem om]at this;exact this.symm
 rw[zm (by simp;omega),List.getElem_drop]
 congr 1
 simp;omega
theorem uI: ∀gs:List Nat,(gtL gs).length<=5*gs.length-1/\gs.length<=(gtL gs).length
 |[]=>by simp[gtL,jl]
 |[g]=>by have:=nC g;simp[gtL,jl];omega
 |g::h::r=>by
  have ih:=uI (h::r);have hg:=nC g;unfold gtL at ih⊢;rw[zj,zj,jl,zd,zp];rw[zj]at ih;simp only[zp]at ih⊢;omega
theorem Cq{w:List Nat}{f e:Nat}(hl:w.length=8)(he:e<=8):2<=(AB w f e).length/\(AB w f e).length<=39:=by
 unfold AB;have g1:=uI w;have g2:=uI (w.take f);have g3:=uI (w.drop e);split
 .omega
 simp only[zd,zp,zn,zo]at g2 g3⊢;omega
def jX:Nat->Nat×Nat×Nat->List Bool->Nat×Nat×Nat
 |_,s,[]=>s
 |i,(f,t,b),z::r=>jX (i+1) (if z then (if t-f<i+1-b then (b,i+1,b)else (f,t,b))else (f,t,i+1)) r
def runZ:List Bool->Nat
 |true::r=>runZ r+1
 |_=>0
def rowS:Nat->Nat×Nat->List Bool->Nat×Nat
 |_,s,[]=>s
 |a,(f,t),z::r=>rowS (a+1) (if 1<runZ (z::r)/\t-f<runZ (z::r)then (a,a+runZ (z::r))else (f,t)) r
def DC(z:List Bool):Bool:=
 let p:=jX 0 (0,0,0) z
 let q:=rowS 0 (8,8) z
 decide (p.1<=p.2.1)&&decide (p.2.1<=8)&&(if p.2.1-p.1<2 then decide (q=(8,8))else decide (q=(p.1,p.2.1))&&(z0 8).all fun i=> !(decide (p.1<=i)&&decide (i<p.2.1))||z.getD i false)
theorem Cr: ∀a b c d e f g h:Bool,DC [a,b,c,d,e,f,g,h]=true:=by decide+kernel
end
section
open Go.RowKit
set_option linter.unusedSimpArgs false
def bK(w:World):Prop:=w.cell? ⟨11,15,none⟩=some (.int .u8 4)
theorem vQ(w:World):Calls prog 235 #[.int .i64 16] w fun e w'=>e=.returned (.bool true)/\w=w':=by
 go_enter func235,ntmps235;go_wp2;go_ret;exact ⟨rfl,rfl⟩
theorem M2(w:World)(h:bK w):Calls prog 260 #[.int .u64 16] w fun e w'=>e=.returned (.int .i64 4)/\w=w':=by
 unfold bK at h;have e1:bits .and .u64 16 (IntKind.u64.wrap (-16))=16:=kr;have e2:IntKind.u64.wrap (16*285870213051353865)=4573923408821661840:=kr;have e3:IntKind.u64.wrap 4573923408821661840=4573923408821661840:=kr;have e4:(4573923408821661840:Int)/288230376151711744=15:=de;go_enter func260,ntmps260;go_wp2;go_ret;exact ⟨rfl,rfl⟩
theorem LH(w:World)(h:bK w):Calls prog 236 #[.int .u64 16] w fun e w'=>e=.returned (.int .i64 4)/\w=w':=by
 have H:Hid (bK w):=h;clear h;go_enter func236,ntmps236;go_wp2_with fail;refine j5 (M2 _ H.out) ?_;go_wp2_with fail;go_ret;exact ⟨rfl,rfl⟩
theorem aT{w w':World}(h:bK w)(hb:Below w.heap.size w w'):bK w':=cell_later hb h
theorem dig36: ∀k,k<16->((#[48,49,50,51,52,53,54,55,56,57,97,98,99,100,101,102,103,104,105,106,107,108,109,110,111,112,113,114,115,116,117,118,119,120,121,122]:Array UInt8).getD k 0)=hxU k:=by decide+kernel
theorem iB(k:Nat)(h:k<16)(hp:k<(⟨#[48,49,50,51,52,53,54,55,56,57,97,98,99,100,101,102,103,104,105,106,107,108,109,110,111,112,113,114,115,116,117,118,119,120,121,122]⟩:ByteArray).size):
  (⟨#[48,49,50,51,52,53,54,55,56,57,97,98,99,100,101,102,103,104,105,106,107,108,109,110,111,112,113,114,115,116,117,118,119,120,121,122]⟩:ByteArray)[k]'hp=hxU k:=by
 rw[<-dig36 k h];rw[Array.getD_eq_getD_getElem?,Array.getElem?_eq_getElem hp];rfl
theorem LI:zeroCells221.size=65:=kr
theorem DE(n:Int)(h0:0<=n)(h1:n<18446744073709551616):IntKind.u64.wrap n=n:=by
 simp[IntKind.wrap,IntKind.bits,IntKind.signed];omega
theorem mN(x:Int)(h0:0<=x)(h1:x<18446744073709551616):bits .and .u64 x 15=x%16:=by
 obtain ⟨a,rfl⟩:=zq h0;have ha:(BitVec.ofInt 64 (a:Int)).toNat=a:=by
  rw[BitVec.ofInt_natCast,BitVec.toNat_ofNat];exact Nat.mod_eq_of_lt om
 have hb:(BitVec.ofInt 64 (15:Int)).toNat=15:=de;show IntKind.u64.wrap ((BitVec.ofInt 64 (a:Int)&&&BitVec.ofInt 64 (15:Int)).toNat:Int)=_;rw[BitVec.toNat_and,ha,hb,show (15:Nat)=2^4-1 from rfl,Nat.and_two_pow_sub_one_eq_mod,DE _ om om];omega
theorem AQ{w:World}{cs:Array Value}{T:TypeId}{o:Nat}{l:List UInt8}(h: ∀j (hj:j<l.length),cs[o+j]? =some (.int .u8 (l[j].toNat:Int))):
  ∀(j:Nat) (x:Value),(aD l)[j]? =some x->(w.alloc (.cells cs T)).cell? ((⟨w.heap.size,o,none⟩:Addr).add j)=some x:=by
 intro j x hj;rw[Addr.add_lit,World.cell?_alloc_at _ _ _ _ rfl];unfold aD at hj;rw[zx]at hj;obtain ⟨c,hc,rfl⟩:=Option.map_eq_some_iff.1 hj;obtain ⟨hl,rfl⟩:=List.getElem?_eq_some_iff.1 hc;exact h j hl
theorem OG(u:Int)(B:Nat)(v:Value)(l:List UInt8)(w:World)(h0:0<=u)(h1:u<16)(hT:bK w)(hown:w.ownsRow B 5 1 v l.length (aD l))(hB:B<=w.heap.size)(hl:l.length<=1000):Calls prog 199 #[v,.int .u64 u,.int .i64 16,.bool false,.bool true] w fun e w'=> ∃v',e=.returned (.tuple #[v',.string ⟨#[]⟩])/\w'.ownsRow B 5 1 v' (l++bQ u.toNat).length (aD (l++bQ u.toNat))/\Below B w w':=by
 have HH:Hid (bQ u.toNat=[hxU u.toNat]):=by show _=_;unfold bQ;rw[if_pos om]
 obtain ⟨i0,hi,hz0,hz1,hz2⟩:=info_parts info5;have HT:Hid (bK w):=hT;clear hT;have HO:Hid (w.ownsRow B 5 1 v l.length (aD l)):=hown;clear hown;go_enter func199,ntmps199;go_wp2_with fail;refine j5 (vQ _) ?_;go_wp2_with fail;refine j5 (LH _ (aT HT.out ((zl _ _).alloc (zt _) _))) ?_;go_wp2_with fail;refine wp_loop_rounds 1 ?_;rw[rounds_succ];go_wp2_with (at_builtin;refine wpList_append_own _ rfl _ _ 22 rfl B 5 i0 (.int .u8 0) 1 1 underlying22 hi hz0 hz1 hz2 rfl de _ _ _ rfl (HO.out.alloc _) ⟨w.heap.size,64,none⟩ 1 1 (aD (bQ u.toNat)) rfl (by rw[gY,HH.out];rfl) (AQ ?_) (iY _) (by unfold maxLen;omega) om (by simp;omega) ?_)
 .rw[HH.out]
  intro j hj
  obtain rfl:j=0:=by simpa using hj
  rw[Array.getElem?_setIfInBounds_self_of_lt (by rw[LI];decide),iB _ om];rfl
 intro v' w1 h2 h3 _;have B1:Below B w w1:=((zl B w).alloc hB _).grown h3 (by simp;omega) (fun k hk=>(HO.out.lt k hk).1);have R:w1.ownsRow B 5 1 v' (l++bQ u.toNat).length (aD (l++bQ u.toNat)):=by
  rw[fC,zd,show (bQ u.toNat).length=1 by rw[HH.out];rfl];exact h2
 clear h2 h3;go_wp2_with fail;go_ret2;exact ⟨_,rfl,R,B1⟩
theorem OH(u:Int)(B:Nat)(v:Value)(l:List UInt8)(w:World)(h0:16<=u)(h1:u<256)(hT:bK w)(hown:w.ownsRow B 5 1 v l.length (aD l))(hB:B<=w.heap.size)(hl:l.length<=1000):Calls prog 199 #[v,.int .u64 u,.int .i64 16,.bool false,.bool true] w fun e w'=> ∃v',e=.returned (.tuple #[v',.string ⟨#[]⟩])/\w'.ownsRow B 5 1 v' (l++bQ u.toNat).length (aD (l++bQ u.toNat))/\Below B w w':=by
 obtain ⟨q1,hq1⟩: ∃q1:Int,u/16=q1:=⟨_,rfl⟩;obtain ⟨r0,hr0⟩: ∃r0:Int,u%16=r0:=⟨_,rfl⟩;have HH:Hid (bQ u.toNat=[hxU q1.toNat,hxU r0.toNat]):=by
  show _=_;unfold bQ;rw[if_neg om,if_pos om,show u.toNat/16=q1.toNat by omega,show u.toNat%16=r0.toNat by omega]
 have c1:0<=q1:=om;have c2:q1<16:=om;have c3:0<=r0:=om;have c4:r0<16:=om;have b0:bits .and .u64 u 15=r0:=by rw[mN _ om om,hr0]
 clear hr0;obtain ⟨i0,hi,hz0,hz1,hz2⟩:=info_parts info5;have HT:Hid (bK w):=hT;clear hT;have HO:Hid (w.ownsRow B 5 1 v l.length (aD l)):=hown;clear hown;go_enter func199,ntmps199;go_wp2_with fail;refine j5 (vQ _) ?_;go_wp2_with fail;refine j5 (LH _ (aT HT.out ((zl _ _).alloc (zt _) _))) ?_;go_wp2_with fail;refine wp_loop_rounds 2 ?_;rw[rounds_succ];go_wp2_with fail;rw[rounds_succ];go_wp2_with (at_builtin;refine wpList_append_own _ rfl _ _ 22 rfl B 5 i0 (.int .u8 0) 1 1 underlying22 hi hz0 hz1 hz2 rfl de _ _ _ rfl (HO.out.alloc _) ⟨w.heap.size,63,none⟩ 2 2 (aD (bQ u.toNat)) rfl (by rw[gY,HH.out];rfl) (AQ ?_) (iY _) (by unfold maxLen;omega) om (by simp;omega) ?_)
 .rw[HH.out,iB r0.toNat om,iB q1.toNat om]
  intro j hj;have h3:j=0∨j=1:=by simp at hj;omega
  rcases h3 with rfl|rfl<;>simp[zh,LI]
 intro v' w1 h2 h3 _;have B1:Below B w w1:=((zl B w).alloc hB _).grown h3 (by simp;omega) (fun k hk=>(HO.out.lt k hk).1);have R:w1.ownsRow B 5 1 v' (l++bQ u.toNat).length (aD (l++bQ u.toNat)):=by
  rw[fC,zd,show (bQ u.toNat).length=2 by rw[HH.out];rfl];exact h2
 clear h2 h3;go_wp2_with fail;go_ret2;exact ⟨_,rfl,R,B1⟩
theorem OI(u:Int)(B:Nat)(v:Value)(l:List UInt8)(w:World)(h0:256<=u)(h1:u<4096)(hT:bK w)(hown:w.ownsRow B 5 1 v l.length (aD l))(hB:B<=w.heap.size)(hl:l.length<=1000):Calls prog 199 #[v,.int .u64 u,.int .i64 16,.bool false,.bool true] w fun e w'=> ∃v',e=.returned (.tuple #[v',.string ⟨#[]⟩])/\w'.ownsRow B 5 1 v' (l++bQ u.toNat).length (aD (l++bQ u.toNat))/\Below B w w':=by
 obtain ⟨q1,hq1⟩: ∃q1:Int,u/16=q1:=⟨_,rfl⟩;obtain ⟨r0,hr0⟩: ∃r0:Int,u%16=r0:=⟨_,rfl⟩;obtain ⟨q2,hq2⟩: ∃q2:Int,q1/16=q2:=⟨_,rfl⟩;obtain ⟨r1,hr1⟩: ∃r1:Int,q1%16=r1:=⟨_,rfl⟩;have HH:Hid (bQ u.toNat=[hxU q2.toNat,hxU r1.toNat,hxU r0.toNat]):=by
  show _=_;unfold bQ;rw[if_neg om,if_neg om,if_pos om,show u.toNat/256=q2.toNat by omega,show u.toNat/16%16=r1.toNat by omega,show u.toNat%16=r0.toNat by omega]
 have c1:16<=q1:=om;have c2:q1<256:=om;have c3:0<=r0:=om;have c4:r0<16:=om;have c5:0<=q2:=om;have c6:q2<16:=om;have c7:0<=r1:=om;have c8:r1<16:=om;have b0:bits .and .u64 u 15=r0:=by rw[mN _ om om,hr0]
 have b1:bits .and .u64 q1 15=r1:=by rw[mN _ om om,hr1]
 clear hr0 hr1;obtain ⟨i0,hi,hz0,hz1,hz2⟩:=info_parts info5;have HT:Hid (bK w):=hT;clear hT;have HO:Hid (w.ownsRow B 5 1 v l.length (aD l)):=hown;clear hown;go_enter func199,ntmps199;go_wp2_with fail;refine j5 (vQ _) ?_;go_wp2_with fail;refine j5 (LH _ (aT HT.out ((zl _ _).alloc (zt _) _))) ?_;go_wp2_with fail;refine wp_loop_rounds 3 ?_;rw[rounds_succ];go_wp2_with fail;rw[rounds_succ];go_wp2_with fail;rw[rounds_succ];go_wp2_with (at_builtin;refine wpList_append_own _ rfl _ _ 22 rfl B 5 i0 (.int .u8 0) 1 1 underlying22 hi hz0 hz1 hz2 rfl de _ _ _ rfl (HO.out.alloc _) ⟨w.heap.size,62,none⟩ 3 3 (aD (bQ u.toNat)) rfl (by rw[gY,HH.out];rfl) (AQ ?_) (iY _) (by unfold maxLen;omega) om (by simp;omega) ?_)
 .rw[HH.out,iB r0.toNat om,iB r1.toNat om,iB q2.toNat om]
  intro j hj;have h3:j=0∨j=1∨j=2:=by simp at hj;omega
  rcases h3 with rfl|rfl|rfl<;>simp[zh,LI]
 intro v' w1 h2 h3 _;have B1:Below B w w1:=((zl B w).alloc hB _).grown h3 (by simp;omega) (fun k hk=>(HO.out.lt k hk).1);have R:w1.ownsRow B 5 1 v' (l++bQ u.toNat).length (aD (l++bQ u.toNat)):=by
  rw[fC,zd,show (bQ u.toNat).length=3 by rw[HH.out];rfl];exact h2
 clear h2 h3;go_wp2_with fail;go_ret2;exact ⟨_,rfl,R,B1⟩
theorem OJ(u:Int)(B:Nat)(v:Value)(l:List UInt8)(w:World)(h0:4096<=u)(h1:u<65536)(hT:bK w)(hown:w.ownsRow B 5 1 v l.length (aD l))(hB:B<=w.heap.size)(hl:l.length<=1000):Calls prog 199 #[v,.int .u64 u,.int .i64 16,.bool false,.bool true] w fun e w'=> ∃v',e=.returned (.tuple #[v',.string ⟨#[]⟩])/\w'.ownsRow B 5 1 v' (l++bQ u.toNat).length (aD (l++bQ u.toNat))/\Below B w w':=by
 obtain ⟨q1,hq1⟩: ∃q1:Int,u/16=q1:=⟨_,rfl⟩;obtain ⟨r0,hr0⟩: ∃r0:Int,u%16=r0:=⟨_,rfl⟩;obtain ⟨q2,hq2⟩: ∃q2:Int,q1/16=q2:=⟨_,rfl⟩;obtain ⟨r1,hr1⟩: ∃r1:Int,q1%16=r1:=⟨_,rfl⟩;obtain ⟨q3,hq3⟩: ∃q3:Int,q2/16=q3:=⟨_,rfl⟩;obtain ⟨r2,hr2⟩: ∃r2:Int,q2%16=r2:=⟨_,rfl⟩;have HH:Hid (bQ u.toNat=[hxU q3.toNat,hxU r2.toNat,hxU r1.toNat,hxU r0.toNat]):=by
  show _=_;unfold bQ;rw[if_neg om,if_neg om,if_neg om,show u.toNat/4096=q3.toNat by omega,show u.toNat/256%16=r2.toNat by omega,show u.toNat/16%16=r1.toNat by omega,show u.toNat%16=r0.toNat by omega]
 have c1:256<=q1:=om;have c2:q1<4096:=om;have c3:0<=r0:=om;have c4:r0<16:=om;have c5:16<=q2:=om;have c6:q2<256:=om;have c7:0<=r1:=om;have c8:r1<16:=om;have d5:0<=q3:=om;have d6:q3<16:=om;have d7:0<=r2:=om;have d8:r2<16:=om;have b0:bits .and .u64 u 15=r0:=by rw[mN _ om om,hr0]
 have b1:bits .and .u64 q1 15=r1:=by rw[mN _ om om,hr1]
 have b2:bits .and .u64 q2 15=r2:=by rw[mN _ om om,hr2]
 clear hr0 hr1 hr2;obtain ⟨i0,hi,hz0,hz1,hz2⟩:=info_parts info5;have HT:Hid (bK w):=hT;clear hT;have HO:Hid (w.ownsRow B 5 1 v l.length (aD l)):=hown;clear hown;go_enter func199,ntmps199;go_wp2_with fail;refine j5 (vQ _) ?_;go_wp2_with fail;refine j5 (LH _ (aT HT.out ((zl _ _).alloc (zt _) _))) ?_;go_wp2_with fail;refine wp_loop_rounds 4 ?_;rw[rounds_succ];go_wp2_with fail;rw[rounds_succ];go_wp2_with fail;rw[rounds_succ];go_wp2_with fail;rw[rounds_succ];go_wp2_with (at_builtin;refine wpList_append_own _ rfl _ _ 22 rfl B 5 i0 (.int .u8 0) 1 1 underlying22 hi hz0 hz1 hz2 rfl de _ _ _ rfl (HO.out.alloc _) ⟨w.heap.size,61,none⟩ 4 4 (aD (bQ u.toNat)) rfl (by rw[gY,HH.out];rfl) (AQ ?_) (iY _) (by unfold maxLen;omega) om (by simp;omega) ?_)
 .rw[HH.out,iB r0.toNat om,iB r1.toNat om,iB r2.toNat om,iB q3.toNat om]
  intro j hj;have h3:j=0∨j=1∨j=2∨j=3:=by simp at hj;omega
  rcases h3 with rfl|rfl|rfl|rfl<;>simp[zh,LI]
 intro v' w1 h2 h3 _;have B1:Below B w w1:=((zl B w).alloc hB _).grown h3 (by simp;omega) (fun k hk=>(HO.out.lt k hk).1);have R:w1.ownsRow B 5 1 v' (l++bQ u.toNat).length (aD (l++bQ u.toNat)):=by
  rw[fC,zd,show (bQ u.toNat).length=4 by rw[HH.out];rfl];exact h2
 clear h2 h3;go_wp2_with fail;go_ret2;exact ⟨_,rfl,R,B1⟩
theorem UB(u:Int)(B:Nat)(v:Value)(l:List UInt8)(w:World)(h0:0<=u)(h1:u<65536)(hT:bK w)(hown:w.ownsRow B 5 1 v l.length (aD l))(hB:B<=w.heap.size)(hl:l.length<=1000):Calls prog 199 #[v,.int .u64 u,.int .i64 16,.bool false,.bool true] w fun e w'=> ∃v',e=.returned (.tuple #[v',.string ⟨#[]⟩])/\w'.ownsRow B 5 1 v' (l++bQ u.toNat).length (aD (l++bQ u.toNat))/\Below B w w':=by
 by_cases c1:u<16
 .exact OG u B v l w h0 c1 hT hown hB hl
 by_cases c2:u<256
 .exact OH u B v l w om c2 hT hown hB hl
 by_cases c3:u<4096
 .exact OI u B v l w om c3 hT hown hB hl
 exact OJ u B v l w om h1 hT hown hB hl
theorem UC(u:Int)(B:Nat)(v:Value)(l:List UInt8)(w:World)(h0:0<=u)(h1:u<65536)(hT:bK w)(hown:w.ownsRow B 5 1 v l.length (aD l))(hB:B<=w.heap.size)(hl:l.length<=1000):Calls prog 192 #[v,.int .i64 u,.int .i64 16] w fun e w'=> ∃v',e=.returned v'/\w'.ownsRow B 5 1 v' (l++bQ u.toNat).length (aD (l++bQ u.toNat))/\Below B w w':=by
 have CF:Hid (∀W,W=w->Calls prog 199 #[v,.int .u64 u,.int .i64 16,.bool false,.bool true] W fun e w'=> ∃v',e=.returned (.tuple #[v',.string ⟨#[]⟩])/\w'.ownsRow B 5 1 v' (l++bQ u.toNat).length (aD (l++bQ u.toNat))/\Below B w w'):=fun W h=>by subst h;exact UB u B v l _ h0 h1 hT hown hB hl
 clear hT hown;have CU:Calls prog 258 #[v,.int .u64 u,.int .i64 16] w fun e w'=> ∃v',e=.returned v'/\w'.ownsRow B 5 1 v' (l++bQ u.toNat).length (aD (l++bQ u.toNat))/\Below B w w':=by
  go_enter func258,ntmps258;go_wp2_with fail;refine (CF.out _ rfl).mono ?_;rintro e w' ⟨v',rfl,h2,h3⟩;go_wp2_with fail;go_ret;exact ⟨_,rfl,h2,h3⟩
 have CU:Hid (Calls prog 258 #[v,.int .u64 u,.int .i64 16] w fun e w'=> ∃v',e=.returned v'/\w'.ownsRow B 5 1 v' (l++bQ u.toNat).length (aD (l++bQ u.toNat))/\Below B w w'):=CU;clear CF;have CI:Calls prog 231 #[v,.int .i64 u,.int .i64 16] w fun e w'=> ∃v',e=.returned v'/\w'.ownsRow B 5 1 v' (l++bQ u.toNat).length (aD (l++bQ u.toNat))/\Below B w w':=by
  go_enter func231,ntmps231;go_wp2_with fail;refine CU.out.mono ?_;rintro e w' ⟨v',rfl,h2,h3⟩;go_wp2_with fail;go_ret;exact ⟨_,rfl,h2,h3⟩
 have CI:Hid (Calls prog 231 #[v,.int .i64 u,.int .i64 16] w fun e w'=> ∃v',e=.returned v'/\w'.ownsRow B 5 1 v' (l++bQ u.toNat).length (aD (l++bQ u.toNat))/\Below B w w'):=CI;clear CU;go_enter func192,ntmps192;go_wp2_with fail;refine CI.out.mono ?_;rintro e w' ⟨v',rfl,h2,h3⟩;go_wp2_with fail;go_ret;exact ⟨_,rfl,h2,h3⟩
end
section
open Go.ChangeShapes Go.WideShapes Go.ChangeAt Go.RowKit Go.Lib
def M3:List Int:=[0,1,56,2,57,49,28,3,61,58,42,50,38,29,17,4,62,47,59,36,45,43,51,22,53,39,33,30,24,18,12,5,63,55,48,27,60,41,37,16,46,35,44,21,52,32,23,11,54,26,40,15,34,20,31,10,25,14,19,9,13,8,7,6]
theorem M4:(Rows.laid_math_bits_deBruijn64tab:DataW Unit)=Lib.tabData .u8 M3:=kr
def M5(h:Array Obj):Array Obj:=J3 (Cn h)
end
section
open Go.RowKit
theorem gQ(c:Nat)(w:World)(hc:(c:Int)<=255):Calls prog 217 #[.int .u8 (c:Int)] w fun e w'=>e=.returned (.bool (cD c))/\w=w':=by
 by_cases h1:97<=(c:Int)
 .by_cases h2:(c:Int)<=122
  .have HV:Hid (cD c=true):=by show _=_;unfold cD;simp;omega
   go_enter func217,ntmps217;go_wp2;go_ret;exact ⟨aG (by rw[HV.out]<;>first|rfl|(simp<;>omega)),rfl⟩
  have HV:Hid (cD c=false):=by show _=_;unfold cD;simp;omega
  have h3:65<=(c:Int):=om;have h4: ¬(c:Int)<=90:=om;go_enter func217,ntmps217;go_wp2;go_ret;exact ⟨aG (by rw[HV.out]<;>first|rfl|(simp<;>omega)),rfl⟩
 by_cases h3:65<=(c:Int)
 .by_cases h4:(c:Int)<=90
  .have HV:Hid (cD c=true):=by show _=_;unfold cD;simp;omega
   go_enter func217,ntmps217;go_wp2;go_ret;exact ⟨aG (by rw[HV.out]<;>first|rfl|(simp<;>omega)),rfl⟩
  have HV:Hid (cD c=false):=by show _=_;unfold cD;simp;omega
  go_enter func217,ntmps217;go_wp2;go_ret;exact ⟨aG (by rw[HV.out]<;>first|rfl|(simp<;>omega)),rfl⟩
 have HV:Hid (cD c=false):=by show _=_;unfold cD;simp;omega
 go_enter func217,ntmps217;go_wp2;go_ret;exact ⟨aG (by rw[HV.out]<;>first|rfl|(simp<;>omega)),rfl⟩
def eW(l:List UInt8)(c:Int):Bool:=l.any fun b=>decide ((b.toNat:Int)=c)
theorem xX(s:ByteArray)(c:Int)(w:World)(hs:s.size<=1048576):Calls prog 55 #[.string s,.int .i64 c] w fun e w'=>e=.returned (.bool (eW s.data.toList c))/\w=w':=by
 go_enter func55,ntmps55;go_wp2
 go_loop[5] (fun i=> ∃k:Nat,k<=s.size/\i=.int .i64 k/\eW (s.data.toList.take k) c=false) (fun i=>s.size-(intOf i).toNat)
 case atStart=>exact ⟨0,Nat.zero_le _,rfl,rfl⟩
 obtain ⟨k,hk,rfl,hno⟩:=hrel;have HN:Hid (eW (s.data.toList.take k) c=false):=hno;clear hno
 by_cases hlt:k<s.size
 .obtain ⟨d,hd⟩: ∃d:Nat,s[k].toNat=d:=⟨_,rfl⟩
  have hd1:(d:Int)<=255:=by have:=s[k].toNat_lt;omega
  by_cases he:(d:Int)=c
  .have HV:Hid (eW s.data.toList c=true):=by
    show _=_;unfold eW;refine List.any_eq_true.2 ⟨s[k],?_,by rw[hd];exact decide_eq_true he⟩
    have:s[k]∈s.data:=Array.getElem_mem _
    simpa using this
   go_wp2;go_ret;exact ⟨aG (by rw[HV.out]),rfl⟩
  have HN2:Hid (eW (s.data.toList.take (k+1)) c=false):=by
   show _=_;have h:=HN.out;unfold eW at h⊢;rw[eI s k hlt,List.any_append,h];simp[hd,he]
  go_wp2;go_round
  case rel=>exact ⟨k+1,om,gn,HN2.out⟩
  case measure=>exact j1
 have HV:Hid (eW s.data.toList c=false):=by
  show _=_;have h:=HN.out;rw[cS s k om]at h;exact h
 go_wp2;go_ret;exact ⟨aG (by rw[HV.out]),rfl⟩
def kK(c:Int):Bool:=decide (97<=c/\c<=122)||decide (65<=c/\c<=90)
theorem UD(c:Int)(w:World):Calls prog 125 #[.int .i64 c] w fun e w'=>e=.returned (.bool (kK c))/\w=w':=by
 by_cases h1:97<=c/\c<=122
 .have HV:Hid (kK c=true):=by show _=_;unfold kK;rw[decide_eq_true h1];rfl
  have H1:Hid (97<=c/\c<=122):=h1;clear h1;go_enter func125,ntmps125;go_wp2_with fail;refine j5 (aJ _ _ _ _ H1.out.1 H1.out.2) ?_;go_wp2;go_ret;exact ⟨aG (by rw[HV.out]),rfl⟩
 have HV:Hid (kK c=decide (65<=c/\c<=90)):=by show _=_;unfold kK;rw[decide_eq_false h1];rfl
 have H1:Hid (c<97∨122<c):=by show _∨_;omega
 clear h1;go_enter func125,ntmps125;go_wp2_with fail;refine j5 (aN _ _ _ _ H1.out) ?_;go_wp2_with fail;refine j5 (J8 _ _ _ _) ?_;generalize decide (65<=c/\c<=90)=b at HV;go_wp2;go_ret;exact ⟨aG (by rw[HV.out]),rfl⟩
def gG(w:World):Prop:= ∀c:Nat,c<128->w.cell? ⟨6,c,none⟩=some (.bool (iZ c))/\w.cell? ⟨9,c,none⟩=some (.bool (oY c))
theorem gG.later{w w':World}(h:gG w)(hb:Below w.heap.size w w'):gG w':=fun c hc=>
 ⟨(zu (w:=w) (a:=⟨6,c,none⟩) (hb.block _ (zr w _ (h c hc).1))).trans (h c hc).1,
  (zu (w:=w) (a:=⟨9,c,none⟩) (hb.block _ (zr w _ (h c hc).2))).trans (h c hc).2⟩
theorem DF(c:Nat):decide (48<=(c:Int)/\(c:Int)<=57)=fZ c:=by
 unfold fZ;exact decide_eq_decide.2 om
theorem rQ(c:Nat)(w:World)(hM:gG w)(hc:(c:Int)<=255):Calls prog 158 #[.int .u8 (c:Int)] w fun e w'=>e=.returned (.bool (eF c))/\w=w':=by
 have hc0:0<=(c:Int):=om
 cases hl:cD c with
 |true=>
  have HL:Hid (cD c=true):=hl;have HV:Hid (eF c=true):=by show _=_;unfold eF;rw[hl];rfl
  clear hl hM;go_enter func158,ntmps158;go_wp2_with fail;refine j5 (gQ c _ hc) ?_;rw[HL.out];go_wp2;go_ret;exact ⟨aG (by rw[HV.out]),rfl⟩
 |false=>
  have HL:Hid (cD c=false):=hl
  cases hg:fZ c with
  |true=>
   have HG:Hid (fZ c=true):=hg;have HV:Hid (eF c=true):=by show _=_;unfold eF;rw[hl,hg];rfl
   clear hl hg hM;go_enter func158,ntmps158;go_wp2_with fail;refine j5 (gQ c _ hc) ?_;rw[HL.out];go_wp2_with fail;refine j5 (eG c _ om) ?_;rw[DF,HG.out];go_wp2;go_ret;exact ⟨aG (by rw[HV.out]),rfl⟩
  |false=>
   have HG:Hid (fZ c=false):=hg
   by_cases h128:(c:Int)<128
   .have hcell:=(hM c om).1
    have HV:Hid (eF c=iZ c):=by show _=_;unfold eF;rw[hl,hg];rfl
    generalize iZ c=b at hcell HV;clear hl hg hM;go_enter func158,ntmps158;go_wp2_with fail;refine j5 (gQ c _ hc) ?_;rw[HL.out];go_wp2_with fail;refine j5 (eG c _ om) ?_;rw[DF,HG.out];go_wp2;go_ret;exact ⟨aG (by rw[HV.out]),rfl⟩
   have HV:Hid (eF c=false):=by
    show _=_
    cases hx:eF c with
    |false=>rfl
    |true=>have:=Cg hx;omega
   have h129:128<=(c:Int):=om;clear hl hg hM h128;go_enter func158,ntmps158;go_wp2_with fail;refine j5 (gQ c _ hc) ?_;rw[HL.out];go_wp2_with fail;refine j5 (eG c _ om) ?_;rw[DF,HG.out];go_wp2;go_ret;exact ⟨aG (by rw[HV.out]),rfl⟩
theorem xY{set:Int}(c:Int)(h: ¬(1<=set/\set<=3)):jU set c=false:=by
 unfold jU;rw[J5 h];simp
theorem ZS(set:Int){c:Int}(h:c<0):jU set c=false:=by
 unfold jU;rw[decide_eq_false om];rfl
theorem ZT(set:Int){c:Int}(h:128<=c):jU set c=false:=by
 unfold jU
 cases hx:dV set c.toNat with
 |false=>simp
 |true=>have:=Ch hx;omega
theorem xZ(set:Int)(n:Nat):jU set (n:Int)=dV set n:=by simp[jU]
theorem OK{set:Int}(h:1<=set/\set<=3):dV set 47=decide (set≠3):=by simp[dV,h,eF,cD,fZ,iZ,oY]
theorem OL{set:Int}(h:1<=set/\set<=3):dV set 63=decide (set=2):=by simp[dV,h,eF,cD,fZ,iZ,oY]
theorem UE{set:Int}{n:Nat}(h:1<=set/\set<=3)(h1:n≠47)(h2:n≠63):dV set n=(oY n||eF n):=by
 simp[dV,h,h1,h2,Bool.or_comm]
theorem ZU(set c:Int)(w:World)(hM:gG w):Calls prog 216 #[.int .i64 set,.int .i64 c] w fun e w'=>e=.returned (.bool (jU set c))/\w=w':=by
 by_cases h1:set<1
 .have HV:Hid (jU set c=false):=xY c om
  clear hM;go_enter func216,ntmps216;go_wp2;go_ret;exact ⟨aG (by rw[HV.out]),rfl⟩
 by_cases h3:3<set
 .have HV:Hid (jU set c=false):=xY c om
  clear hM;go_enter func216,ntmps216;go_wp2;go_ret;exact ⟨aG (by rw[HV.out]),rfl⟩
 by_cases hc0:c<0
 .have HV:Hid (jU set c=false):=ZS set hc0
  clear hM;go_enter func216,ntmps216;go_wp2;go_ret;exact ⟨aG (by rw[HV.out]),rfl⟩
 by_cases hc1:128<=c
 .have HV:Hid (jU set c=false):=ZT set hc1
  clear hM;go_enter func216,ntmps216;go_wp2;go_ret;exact ⟨aG (by rw[HV.out]),rfl⟩
 have hv:1<=set/\set<=3:=om;obtain ⟨n,rfl⟩:=zq (show 0<=c by omega);rw[xZ];have hc2:(n:Int)<128:=om;have hc3:0<=(n:Int):=om;clear hc0 hc1
 by_cases hs:n=47
 .subst hs
  have HV:Hid (dV set 47=decide (set≠3)):=OK hv;clear hM
  by_cases he:set=3
  .go_enter func216,ntmps216
   go_wp2;go_ret;exact ⟨aG (by first|(rw[HV.out];simp[he])|decide),rfl⟩
  go_enter func216,ntmps216;go_wp2;go_ret;exact ⟨aG (by first|(rw[HV.out];simp[he])|decide),rfl⟩
 by_cases hq:n=63
 .subst hq
  have HV:Hid (dV set 63=decide (set=2)):=OL hv;clear hM
  by_cases he:set=2
  .go_enter func216,ntmps216
   go_wp2;go_ret;exact ⟨aG (by first|(rw[HV.out];simp[he])|decide),rfl⟩
  go_enter func216,ntmps216;go_wp2;go_ret;exact ⟨aG (by first|(rw[HV.out];simp[he])|decide),rfl⟩
 have HV:Hid (dV set n=(oY n||eF n)):=UE hv hs hq;have hs': ¬(n:Int)=47:=om;have hq': ¬(n:Int)=63:=om;have hcell:=(hM n om).2;have HM:Hid (gG w):=hM;clear hM hs hq hv;generalize oY n=b at hcell HV
 cases b with
 |true=>
  go_enter func216,ntmps216;go_wp2;go_ret;exact ⟨aG (by rw[HV.out];rfl),rfl⟩
 |false=>
  go_enter func216,ntmps216;go_wp2_with fail;refine j5 (rQ n _ HM.out om) ?_;go_wp2;go_ret;exact ⟨aG (by rw[HV.out];rfl),rfl⟩
end
section
open Go.ChangeShapes Go.WideShapes Go.ChangeAt Go.RowKit Go.Lib
theorem M6:ownKnob prog.godebug=none:=kr
theorem vR:laidOutB prog=true:=kr
def sQ(f:Nat->Bool):DataW Unit:=.agg ((z0 128).map fun i=> .lit (.bool (f i)))
theorem UF:(Rows.laid_loop_example_g00191_impl_plainMarks:DataW Unit)=sQ iZ:=kr
theorem ZV:(Rows.laid_loop_example_g00191_impl_keptMarks:DataW Unit)=sQ oY:=kr
theorem rR{P:Program}{w:World}{name:String}{g:Nat}{t e:TypeId}{f:Nat->Bool}(hn:P.globalNamed name=some g)(hy:(P.globals[g]?).map (·.type)=some t)(ht:P.underlying t=some (.array 128 e))(he:P.underlying e=some .bool)(hce:P.cellsOf e=1)
  (h:VarReads P w name (sQ f)): ∀c,c<128->w.cell? ⟨g,c,none⟩=some (.bool (f c)):=by
 intro c hc;obtain ⟨g',t',cs,fuel,p,hg,hty,hvar,hd⟩:=h
 obtain rfl:=zy.inj (hn.symm.trans hg)
 obtain rfl:=zy.inj (hy.symm.trans hty)
 unfold sQ at hd;obtain ⟨fuel',d,q,hdi,hx⟩:=array_elem ht hd c hc;simp only[zx,List.getElem?_range hc,zs,zy.injEq]at hdi;subst hdi;rw[hce]at hx;obtain ⟨b,hb,hxx⟩:=DataW.trod_bool he hx;have hfb:f c=b:=by simpa using congrArg Prod.fst hxx
 have e0:=congrArg (·[0]?) hb;simp only[List.getElem?_take,List.getElem?_drop]at e0;rw[World.var?_cell hg hvar c,<-Array.getElem?_toList,hfb];simpa using e0
def OM(f:Nat->Bool):Obj->Obj
 | .cells _ t frozen=> .cells ((z0 128).map fun i=>Value.bool (f i)).toArray t frozen
 |o=>o
def ZW(h:Array Obj):Array Obj:=(h.modify 6 (OM iZ)).modify 9 (OM oY)
