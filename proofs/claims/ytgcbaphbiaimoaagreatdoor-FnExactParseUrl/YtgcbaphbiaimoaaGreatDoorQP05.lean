/- LaidPow, Ip6Plain, HexImpl, LaidBru, LaidHost, LetWalk, KeepWalk. -/
import Derived.Test.YtgcbaphbiaimoaaGreatDoorQP04
import Derived.Lib.LaidTab
import Derived.Lib.LaidU8
set_option maxHeartbeats 4000000
set_option maxRecDepth 20000
namespace Go.Proofs.YtgcbaphbiaimoaaGreatDoor
open Go.ChangeShapes Go.WideShapes Go.ChangeAt Go.RowKit Go.Lib
theorem zpxz:(Rows.laid_internal_strconv_uint64pow10:DataW Unit)=Lib.tabData .u64 Lib.pow10Tab:=by kernel_rfl
def zfMz(d:DataW Unit):Array Value:=match d with
 | .agg ds=>(ds.map fun x=>match x with
  | .lit (.int k n)=>Value.int k n
  |_=>Value.int .i64 0).toArray
 |_=> #[]
def ziBz(cs:Array Value):Obj→Obj
 | .cells _ t frozen=> .cells cs t frozen
 |o=>o
def zr3z(h:Array Obj):Array Obj:=
 ((h.modify 10 (ziBz (zfMz Rows.laid_math_bits_deBruijn32tab))).modify 11 (ziBz (zfMz Rows.laid_math_bits_deBruijn64tab))).modify 7 (ziBz (zfMz Rows.laid_internal_strconv_uint64pow10))
end Go.Proofs.YtgcbaphbiaimoaaGreatDoor
namespace Go.Proofs.YtgcbaphbiaimoaaGreatDoor
open Go.RowKit
def hxU(i:Nat):UInt8:=UInt8.ofNat (if i<10 then 48+i else 87+i)
def zCz(n:Nat):List UInt8:=if n<16 then [hxU n]else if n<256 then [hxU (n/16),hxU (n%16)]else if n<4096 then [hxU (n/256),hxU (n/16%16),hxU (n%16)]else [hxU (n/4096),hxU (n/256%16),hxU (n/16%16),hxU (n%16)]
theorem zr4z: ∀i,i<16→zEz (hxU i).toNat=(i:Int):=by decide+kernel
theorem ziCz: ∀i,i<16→hxU i≠58∧hxU i≠46:=by decide+kernel
theorem vRz{i n:Nat}(h:i<16)(r:List UInt8):yUz 16 n (hxU i::r)=yUz 16 (n*16+i) r:=by
 rw[yUz,zr4z i h,if_pos (by omega)]
 rfl
theorem zpyz{n:Nat}(h:n<65536):z4z 16 4 (zCz n)=some n:=by
 unfold zCz z4z
 split
 ·rw[if_pos (by simp),vRz (by omega),yUz]
  congr 1
  omega
 split
 ·rw[if_pos (by simp),vRz (by omega),vRz (by omega),yUz]
  congr 1
  omega
 split
 ·rw[if_pos (by simp),vRz (by omega),vRz (by omega),vRz (by omega),yUz]
  congr 1
  omega
 rw[if_pos (by simp),vRz (by omega),vRz (by omega),vRz (by omega),vRz (by omega),yUz]
 congr 1
 omega
theorem zb7z{n:Nat}(h:n<65536): ∀c∈zCz n,c≠58∧c≠46:=by
 intro c hc
 unfold zCz at hc
 split at hc
 ·simp only[List.mem_cons,List.not_mem_nil,or_false]at hc
  subst hc
  exact ziCz _ (by omega)
 split at hc
 ·simp only[List.mem_cons,List.not_mem_nil,or_false]at hc
  rcases hc with rfl|rfl<;>exact ziCz _ (by omega)
 split at hc
 ·simp only[List.mem_cons,List.not_mem_nil,or_false]at hc
  rcases hc with rfl|rfl|rfl<;>exact ziCz _ (by omega)
 simp only[List.mem_cons,List.not_mem_nil,or_false]at hc
 rcases hc with rfl|rfl|rfl|rfl<;>exact ziCz _ (by omega)
theorem v2z(n:Nat):1≤(zCz n).length∧(zCz n).length≤4:=by
 unfold zCz
 split
 ·simp
 split
 ·simp
 split<;>simp
theorem ziDz(n:Nat):(zCz n).isEmpty=false:=by
 have:=(v2z n).1
 cases h:zCz n with
 |nil=>rw[h]at this;simp at this
 |cons _ _=>rfl
theorem zfNz(n:Nat):zCz n≠[]:=by
 intro e
 have h:=ziDz n
 rw[e]at h
 cases h
def z5z:List UInt8→Option (List UInt8×List UInt8)
 |[]=>none
 |c::r=>if c=58∧r.head? =some 58 then some ([],r.tail)else (z5z r).map fun p=>(c::p.1,p.2)
theorem zfkz: ∀{l:List UInt8},(∀c∈l,c≠58)→z5z l=none
 |[],_=>rfl
 |c::r,h=>by
  rw[z5z,if_neg (fun e=>h c List.mem_cons_self e.1),zfkz (fun d hd=>h d (List.mem_cons_of_mem _ hd))]
  rfl
theorem zdiz{x:List UInt8}(hx:z5z x=none)(hne:x.head? ≠some 58): ∀p,z5z (p++x)=(z5z p).map fun q=>(q.1,q.2++x)
 |[]=>by rw[List.nil_append,hx];rfl
 |[c]=>by
  rw[List.cons_append,List.nil_append,z5z,if_neg (fun e=>hne e.2),hx]
  simp[z5z]
 |c::d::r=>by
  have ih:=zdiz hx hne (d::r)
  rw[List.cons_append,z5z,z5z]
  by_cases h:c=58∧d=58
  ·rw[if_pos (by simpa using h),if_pos (by simpa using h)]
   simp
  rw[if_neg (by simpa using h),if_neg (by simpa using h),ih]
  cases z5z (d::r)<;>rfl
theorem zdjz(y:List UInt8): ∀{p:List UInt8},(∀c∈p,c≠58)→z5z (p++y)=(z5z y).map fun q=>(p++q.1,q.2)
 |[],_=>by
  rw[List.nil_append]
  cases z5z y<;>rfl
 |c::r,h=>by
  rw[List.cons_append,z5z,if_neg (fun e=>h c List.mem_cons_self e.1),zdjz y (fun d hd=>h d (List.mem_cons_of_mem _ hd))]
  cases z5z y<;>rfl
theorem zcMz: ∀{l a b:List UInt8},z5z l=some (a,b)→l=a++58::58::b
 |[],_,_,h=>by cases h
 |c::r,a,b,h=>by
  rw[z5z]at h
  split at h
  ·rename_i hc
   cases h
   obtain ⟨rfl,hr⟩:=hc
   cases r with
   |nil=>simp at hr
   |cons d q=>simp at hr;subst hr;rfl
  cases hr:z5z r with
  |none=>rw[hr]at h;cases h
  |some p=>
   rw[hr]at h
   cases h
   rw[List.cons_append,←zcMz (a:=p.1) (b:=p.2) hr]
def zfOz(x:List UInt8):Prop:=x≠[]∧ ∀c∈x,c≠58
theorem ziEz{b:UInt8}{x:List UInt8}{r:List (List UInt8)}(hx:zfOz x):(jl b (x::r)).head? ≠some 58:=by
 obtain ⟨h1,h2⟩:=hx
 cases x with
 |nil=>exact absurd rfl h1
 |cons c q=>
  have hc:=h2 c List.mem_cons_self
  cases r<;>simp[jl,hc]
theorem zlFz: ∀{fs:List (List UInt8)},(∀x∈fs,zfOz x)→z5z (jl 58 fs)=none
 |[],_=>rfl
 |[x],h=>zfkz (h x List.mem_cons_self).2
 |x::y::r,h=>by
  have ih:=zlFz (fs:=y::r) fun z hz=>h z (List.mem_cons_of_mem _ hz)
  rw[jl,zdjz _ (h x List.mem_cons_self).2,z5z,if_neg (fun e=>ziEz (h y (by simp)) e.2),ih]
  rfl
theorem zjJz(B:List UInt8): ∀{fs:List (List UInt8)},(∀x∈fs,zfOz x)→z5z (jl 58 fs++58::58::B)=some (jl 58 fs,B)
 |[],_=>by simp[jl,z5z]
 |[x],h=>by
  rw[jl,zdjz _ (h x List.mem_cons_self).2,z5z,if_pos (by simp)]
  simp
 |x::y::r,h=>by
  have ih:=zjJz B (fs:=y::r) fun z hz=>h z (List.mem_cons_of_mem _ hz)
  have hh:=ziEz (b:=58) (r:=r) (h y (by simp))
  rw[jl,List.append_assoc,zdjz _ (h x List.mem_cons_self).2,List.cons_append,z5z,if_neg ?_,ih]
  ·rfl
  intro e
  apply hh
  cases hj:jl 58 (y::r)with
  |nil=>
   have h1:=h y (by simp)
   cases r<;>simp[jl]at hj
   exact absurd hj h1.1
  |cons c q=>
   rw[hj]at e
   simpa using e.2
def g16(x:List UInt8):Option Nat:=if x.isEmpty then none else z4z 16 4 x
def grp(t:Bool):List (List UInt8)→Option (List Nat)
 |[]=>some []
 |x::r=>match (if t&&r.isEmpty then p4 x else none)with
  |some n=>some [n/65536,n%65536]
  |none=>match g16 x with
   |none=>none
   |some v=>(grp t r).map (v:: ·)
def yhz(t:Bool)(l:List UInt8):Option (List Nat):=if l.isEmpty then some []else grp t (spl 58 l)
def x5z(a b:List Nat):List Nat:=a++List.replicate (8-a.length-b.length) 0++b
def yEz(l:List UInt8):Option (List Nat):=match z5z l with
 |none=>match yhz true l with
  |none=>none
  |some g=>if g.length=8 then some g else none
 |some (a,b)=>match yhz false a,yhz true b with
  |some x,some y=>if x.length+y.length≤7 then some (x5z x y)else none
  |_,_=>none
def zbDz(l:List UInt8):Option (List Nat):=match z5z l with
 |none=>match yhz false l with
  |none=>none
  |some g=>if g.length=8 then some g else none
 |some (a,b)=>match yhz false a,yhz false b with
  |some x,some y=>if x.length+y.length≤7 then some (x5z x y)else none
  |_,_=>none
def jNz(n:Nat):List UInt8:=jl 58 [zCz (n/65536),zCz (n%65536)]
def zjKz(y:List UInt8):Option (List Nat):=match p4 y with
 |some n=>some [n/65536,n%65536]
 |none=>(g16 y).map fun v=>[v]
theorem vez(x:List UInt8)(r:List (List UInt8)):grp false (x::r)=match g16 x with
  |none=>none
  |some v=>(grp false r).map (v:: ·):=by
 rw[grp];rfl
theorem ziFz: ∀xs ys,grp false (xs++ys)=(grp false xs).bind fun g=>(grp false ys).map (g++ ·)
 |[],ys=>by
  rw[List.nil_append,grp]
  cases grp false ys<;>rfl
 |x::r,ys=>by
  rw[List.cons_append,vez,vez,ziFz r ys]
  cases g16 x<;>cases grp false r<;>cases grp false ys<;>rfl
theorem zfPz: ∀xs y,grp true (xs++[y])=(grp false xs).bind fun g=>(zjKz y).map (g++ ·)
 |[],y=>by
  rw[List.nil_append,grp]
  simp only[List.isEmpty_nil,Bool.and_self,if_true,grp,zjKz,Option.bind_some]
  cases p4 y<;>cases g16 y<;>rfl
 |x::r,y=>by
  rw[List.cons_append,grp,vez,zfPz r y]
  simp only[show (r++[y]).isEmpty=false by cases r<;>rfl,Bool.and_false,Bool.false_eq_true,if_false]
  cases g16 x<;>cases grp false r<;>cases zjKz y<;>rfl
def zbEz(b:List UInt8):Prop:=b=[]∨ ∃q,b=q++[58]
theorem zjLz{b:List UInt8}(h:zbEz b): ∃xs,∀x,spl 58 (b++x)=xs++spl 58 x:=by
 rcases h with rfl|⟨q,rfl⟩
 ·exact ⟨[],fun x=>rfl⟩
 exact ⟨spl 58 q,fun x=>by rw[List.append_assoc,List.cons_append,List.nil_append,zfhz]⟩
theorem zpzz{n:Nat}(h:n<4294967296):spl 58 (jNz n)=[zCz (n/65536),zCz (n%65536)]:=by
 refine zedz 58 (by simp) ?_
 intro x hx
 simp only[List.mem_cons,List.not_mem_nil,or_false]at hx
 rcases hx with rfl|rfl
 ·exact fun c hc=>(zb7z (by omega) c hc).1
 exact fun c hc=>(zb7z (by omega) c hc).1
theorem ziGz{n:Nat}(h:n<65536):g16 (zCz n)=some n:=by
 unfold g16
 rw[ziDz,zpyz h]
 rfl
theorem zr5z{n:Nat}(h:n<4294967296):grp false [zCz (n/65536),zCz (n%65536)]=some [n/65536,n%65536]:=by
 rw[vez,ziGz (by omega),vez,ziGz (by omega),grp]
 rfl
theorem ztwz:p4 []=none:=by rfl
theorem zhqz{b tl:List UInt8}{n:Nat}(hb:zbEz b)(h58: ∀c∈tl,c≠58)(h:p4 tl=some n):yhz true (b++tl)=yhz false (b++jNz n):=by
 obtain ⟨xs,hs⟩:=zjLz hb
 have hn:=(j4z h).1
 have h1:(b++tl).isEmpty=false:=by
  cases tl with
  |nil=>rw[ztwz]at h;cases h
  |cons c r=>cases b<;>rfl
 have h2:(b++jNz n).isEmpty=false:=by
  have h3:=(v2z (n/65536)).1
  cases b with
  |cons c r=>rfl
  |nil=>
   unfold jNz
   cases h4:zCz (n/65536)with
   |nil=>rw[h4]at h3;simp at h3
   |cons c r=>rfl
 unfold yhz
 rw[h1,h2,hs tl,hs (jNz n),v0z 58 h58,zpzz hn,zfPz,ziFz,zr5z hn]
 simp only[zjKz,h]
theorem zfQz{b tl:List UInt8}(hb:zbEz b)(h58: ∀c∈tl,c≠58)(h:p4 tl=none):yhz true (b++tl)=yhz false (b++tl):=by
 obtain ⟨xs,hs⟩:=zjLz hb
 unfold yhz
 rw[hs tl,v0z 58 h58,zfPz,ziFz,vez]
 simp only[zjKz,h,grp]
 cases g16 tl<;>rfl
theorem zjMz{p a b:List UInt8}(hp:zbEz p)(h:z5z p=some (a,b)):zbEz b:=by
 have e:=zcMz h
 rcases hp with rfl|⟨q,rfl⟩
 ·cases h
 by_cases hb:b=[]
 ·exact .inl hb
 obtain ⟨b',c,rfl⟩: ∃b' c,b=b'++[c]:=⟨b.dropLast,b.getLast hb,(List.dropLast_concat_getLast hb).symm⟩
 have e2:q++[58]=(a++58::58::b')++[c]:=by simp[e]
 have:=(List.append_inj' e2 rfl).2
 cases this
 exact .inr ⟨b',rfl⟩
theorem zpAz{n:Nat}(h:n<4294967296):z5z (jNz n)=none∧(jNz n).head? ≠some 58:=by
 have hp: ∀x∈[zCz (n/65536),zCz (n%65536)],zfOz x:=by
  intro x hx
  simp only[List.mem_cons,List.not_mem_nil,or_false]at hx
  rcases hx with rfl|rfl
  ·exact ⟨zfNz _,fun c hc=>(zb7z (by omega) c hc).1⟩
  exact ⟨zfNz _,fun c hc=>(zb7z (by omega) c hc).1⟩
 exact ⟨zlFz hp,ziEz (hp _ (by simp))⟩
theorem zhrz{l:List UInt8}(h: ∀c∈l,c≠58):l.head? ≠some 58:=by
 cases l with
 |nil=>simp
 |cons c r=>simpa using h c List.mem_cons_self
theorem zn1z{p tl:List UInt8}{n:Nat}(hp:zbEz p)(h58: ∀c∈tl,c≠58)(h:p4 tl=some n):zbDz (p++jNz n)=yEz (p++tl):=by
 obtain ⟨t1,t2⟩:=zpAz (j4z h).1
 unfold yEz zbDz
 rw[zdiz (zfkz h58) (zhrz h58),zdiz t1 t2]
 cases hc:z5z p with
 |none=>
  simp only[Option.map_none]
  rw[zhqz hp h58 h]
 |some ab=>
  obtain ⟨a,b⟩:=ab
  simp only[Option.map_some]
  rw[zhqz (zjMz hp hc) h58 h]
theorem zlGz{p tl:List UInt8}(hp:zbEz p)(h58: ∀c∈tl,c≠58)(h:p4 tl=none):zbDz (p++tl)=yEz (p++tl):=by
 unfold yEz zbDz
 rw[zdiz (zfkz h58) (zhrz h58)]
 cases hc:z5z p with
 |none=>
  simp only[Option.map_none]
  rw[zfQz hp h58 h]
 |some ab=>
  obtain ⟨a,b⟩:=ab
  simp only[Option.map_some]
  rw[zfQz (zjMz hp hc) h58 h]
def gtL(gs:List Nat):List UInt8:=jl 58 (gs.map zCz)
theorem zfRz{gs:List Nat}(h: ∀g∈gs,g<65536): ∀x∈gs.map zCz,zfOz x:=by
 intro x hx
 obtain ⟨g,hg,rfl⟩:=List.mem_map.1 hx
 exact ⟨zfNz _,fun c hc=>(zb7z (h g hg) c hc).1⟩
theorem zpBz(t:Bool): ∀{gs:List Nat},(∀g∈gs,g<65536)→grp t (gs.map zCz)=some gs
 |[],_=>by cases t<;>rfl
 |g::r,h=>by
  have hg:=h g List.mem_cons_self
  have h4:p4 (zCz g)=none:=by
   unfold p4
   rw[v0z 46 (fun c hc=>(zb7z hg c hc).2),if_neg (by simp)]
  rw[List.map_cons,grp,h4,zpBz t (fun x hx=>h x (List.mem_cons_of_mem _ hx)),ziGz hg]
  simp
theorem ztxz{gs:List Nat}:(gtL gs).isEmpty=gs.isEmpty:=by
 match gs with
 |[]=>rfl
 |[g]=>simpa[gtL,jl] using ziDz g
 |g::h::r=>
  unfold gtL
  rw[List.map_cons,List.map_cons,jl]
  cases zCz g<;>rfl
theorem ziHz(t:Bool){gs:List Nat}(h: ∀g∈gs,g<65536):yhz t (gtL gs)=some gs:=by
 unfold yhz
 rw[ztxz]
 cases gs with
 |nil=>rfl
 |cons g r=>
  simp only[List.isEmpty_cons,Bool.false_eq_true,if_false]
  unfold gtL
  rw[zedz 58 (by simp) (fun x hx=>(zfRz h x hx).2),zpBz t h]
def ip6T(w:List Nat)(f e:Nat):List UInt8:=if e-f<2 then gtL w else gtL (w.take f)++58::58::gtL (w.drop e)
theorem zm1z{w:List Nat}(hl:w.length=8)(h: ∀g∈w,g<65536):yEz (gtL w)=some w:=by
 unfold yEz
 rw[show z5z (gtL w)=none from zlFz (zfRz h)]
 simp only
 rw[ziHz true h]
 simp only[hl,if_true]
theorem zn2z{w:List Nat}{f e:Nat}(hl:w.length=8)(h: ∀g∈w,g<65536)(he:e≤8)(hz: ∀i,f≤i→i<e→w.getD i 0=0):yEz (ip6T w f e)=some w:=by
 unfold ip6T
 split
 ·exact zm1z hl h
 have h1: ∀g∈w.take f,g<65536:=fun g hg=>h g (List.mem_of_mem_take hg)
 have h2: ∀g∈w.drop e,g<65536:=fun g hg=>h g (List.mem_of_mem_drop hg)
 unfold yEz
 rw[show z5z (gtL (w.take f)++58::58::gtL (w.drop e))=some (gtL (w.take f),gtL (w.drop e)) from zjJz _ (zfRz h1)]
 simp only
 rw[ziHz false h1,ziHz true h2]
 simp only[List.length_take,List.length_drop]
 rw[if_pos (by omega)]
 congr 1
 unfold x5z
 apply List.ext_getElem
 ·simp;omega
 intro i i1 i2
 simp only[List.length_append,List.length_take,List.length_replicate,List.length_drop]at i1
 by_cases c1:i<f
 ·rw[List.getElem_append_left (by simp;omega),List.getElem_append_left (by simp;omega),List.getElem_take]
 by_cases c2:i<e
 ·rw[List.getElem_append_left (by simp;omega),List.getElem_append_right (by simp;omega),List.getElem_replicate]
  have:=hz i (by omega) c2
  rw[List.getD_eq_getElem?_getD,List.getElem?_eq_getElem (by omega)]at this
  exact this.symm
 rw[List.getElem_append_right (by simp;omega),List.getElem_drop]
 congr 1
 simp
 omega
theorem zaqz: ∀gs:List Nat,(gtL gs).length≤5*gs.length-1∧gs.length≤(gtL gs).length
 |[]=>by simp[gtL,jl]
 |[g]=>by have:=v2z g;simp[gtL,jl];omega
 |g::h::r=>by
  have ih:=zaqz (h::r)
  have hg:=v2z g
  unfold gtL at ih⊢
  rw[List.map_cons,List.map_cons,jl,List.length_append,List.length_cons]
  rw[List.map_cons]at ih
  simp only[List.length_cons]at ih⊢
  omega
theorem zm2z{w:List Nat}{f e:Nat}(hl:w.length=8)(he:e≤8):2≤(ip6T w f e).length∧(ip6T w f e).length≤39:=by
 unfold ip6T
 have g1:=zaqz w
 have g2:=zaqz (w.take f)
 have g3:=zaqz (w.drop e)
 split
 ·omega
 simp only[List.length_append,List.length_cons,List.length_take,List.length_drop]at g2 g3⊢
 omega
def vpz:Nat→Nat×Nat×Nat→List Bool→Nat×Nat×Nat
 |_,s,[]=>s
 |i,(f,t,b),z::r=>vpz (i+1) (if z then (if t-f<i+1-b then (b,i+1,b)else (f,t,b))else (f,t,i+1)) r
def runZ:List Bool→Nat
 |true::r=>runZ r+1
 |_=>0
def xEz:Nat→Nat×Nat→List Bool→Nat×Nat
 |_,s,[]=>s
 |a,(f,t),z::r=>xEz (a+1) (if 1<runZ (z::r)∧t-f<runZ (z::r)then (a,a+runZ (z::r))else (f,t)) r
def zcNz(z:List Bool):Bool:=
 let p:=vpz 0 (0,0,0) z
 let q:=xEz 0 (8,8) z
 decide (p.1≤p.2.1)&&decide (p.2.1≤8)&&(if p.2.1-p.1<2 then decide (q=(8,8))else decide (q=(p.1,p.2.1))&&(List.range 8).all fun i=> !(decide (p.1≤i)&&decide (i<p.2.1))||z.getD i false)
theorem zr6z: ∀a b c d e f g h:Bool,zcNz [a,b,c,d,e,f,g,h]=true:=by decide+kernel
end Go.Proofs.YtgcbaphbiaimoaaGreatDoor
namespace Go.Proofs.YtgcbaphbiaimoaaGreatDoor
open Go.RowKit
set_option linter.unusedSimpArgs false
def zJz(w:World):Prop:=w.cell? ⟨11,15,none⟩=some (.int .u8 4)
theorem zdlz(w:World):Calls Tryz.prog 235 #[.int .i64 16] w fun e w'=>e=.returned (.bool true)∧w=w':=by
 go_enter Tryz.func235,Tryz.ntmps235
 go_wp2
 go_ret
 exact ⟨rfl,rfl⟩
theorem zpCz(w:World)(h:zJz w):Calls Tryz.prog 260 #[.int .u64 16] w fun e w'=>e=.returned (.int .i64 4)∧w=w':=by
 unfold zJz at h
 have e1:bits .and .u64 16 (IntKind.u64.wrap (-16))=16:=by kernel_rfl
 have e2:IntKind.u64.wrap (16*285870213051353865)=4573923408821661840:=by kernel_rfl
 have e3:IntKind.u64.wrap 4573923408821661840=4573923408821661840:=by kernel_rfl
 have e4:(4573923408821661840:Int)/288230376151711744=15:=by decide
 go_enter Tryz.func260,Tryz.ntmps260
 go_wp2
 go_ret
 exact ⟨rfl,rfl⟩
theorem ziIz(w:World)(h:zJz w):Calls Tryz.prog 236 #[.int .u64 16] w fun e w'=>e=.returned (.int .i64 4)∧w=w':=by
 have H:Hid (zJz w):=h
 clear h
 go_enter Tryz.func236,Tryz.ntmps236
 go_wp2_with fail
 refine (zpCz _ H.out).mono ?_
 rintro e w' ⟨rfl,rfl⟩
 go_wp2_with fail
 go_ret
 exact ⟨rfl,rfl⟩
theorem zxz{w w':World}(h:zJz w)(hb:Below w.heap.size w w'):zJz w':=cell_later hb h
theorem dig36: ∀k,k<16→((#[48,49,50,51,52,53,54,55,56,57,97,98,99,100,101,102,103,104,105,106,107,108,109,110,111,112,113,114,115,116,117,118,119,120,121,122]:Array UInt8).getD k 0)=hxU k:=by decide+kernel
theorem x6z(k:Nat)(h:k<16)(hp:k<(⟨#[48,49,50,51,52,53,54,55,56,57,97,98,99,100,101,102,103,104,105,106,107,108,109,110,111,112,113,114,115,116,117,118,119,120,121,122]⟩:ByteArray).size):
  (⟨#[48,49,50,51,52,53,54,55,56,57,97,98,99,100,101,102,103,104,105,106,107,108,109,110,111,112,113,114,115,116,117,118,119,120,121,122]⟩:ByteArray)[k]'hp=hxU k:=by
 rw[←dig36 k h]
 rw[Array.getD_eq_getD_getElem?,Array.getElem?_eq_getElem hp]
 rfl
theorem ziJz:Tryz.zeroCells221.size=65:=by kernel_rfl
theorem zfSz(n:Int)(h0:0≤n)(h1:n<18446744073709551616):IntKind.u64.wrap n=n:=by
 simp[IntKind.wrap,IntKind.bits,IntKind.signed];omega
theorem jDz(x:Int)(h0:0≤x)(h1:x<18446744073709551616):bits .and .u64 x 15=x%16:=by
 obtain ⟨a,rfl⟩:=Int.eq_ofNat_of_zero_le h0
 have ha:(BitVec.ofInt 64 (a:Int)).toNat=a:=by
  rw[BitVec.ofInt_natCast,BitVec.toNat_ofNat];exact Nat.mod_eq_of_lt (by omega)
 have hb:(BitVec.ofInt 64 (15:Int)).toNat=15:=by decide
 show IntKind.u64.wrap ((BitVec.ofInt 64 (a:Int)&&&BitVec.ofInt 64 (15:Int)).toNat:Int)=_
 rw[BitVec.toNat_and,ha,hb,show (15:Nat)=2^4-1 from rfl,Nat.and_two_pow_sub_one_eq_mod,zfSz _ (by omega) (by omega)]
 omega
theorem zflz{w:World}{cs:Array Value}{T:TypeId}{o:Nat}{l:List UInt8}(h: ∀j (hj:j<l.length),cs[o+j]? =some (.int .u8 (l[j].toNat:Int))):
  ∀(j:Nat) (x:Value),(zcz l)[j]? =some x→(w.alloc (.cells cs T)).cell? ((⟨w.heap.size,o,none⟩:Addr).add j)=some x:=by
 intro j x hj
 rw[Addr.add_lit,World.cell?_alloc_at _ _ _ _ rfl]
 unfold zcz at hj
 rw[List.getElem?_map]at hj
 obtain ⟨c,hc,rfl⟩:=Option.map_eq_some_iff.1 hj
 obtain ⟨hl,rfl⟩:=List.getElem?_eq_some_iff.1 hc
 exact h j hl
theorem zjNz(u:Int)(B:Nat)(v:Value)(l:List UInt8)(w:World)(h0:0≤u)(h1:u<16)(hT:zJz w)(hown:w.ownsRow B 5 1 v l.length (zcz l))(hB:B≤w.heap.size)(hl:l.length≤1000):
  Calls Tryz.prog 199 #[v,.int .u64 u,.int .i64 16,.bool false,.bool true] w fun e w'=> ∃v',e=.returned (.tuple #[v',.string ⟨#[]⟩])∧w'.ownsRow B 5 1 v' (l++zCz u.toNat).length (zcz (l++zCz u.toNat))∧Below B w w':=by
 have HH:Hid (zCz u.toNat=[hxU u.toNat]):=by show _=_;unfold zCz;rw[if_pos (by omega)]
 obtain ⟨i0,hi,hz0,hz1,hz2⟩:=info_parts Tryz.info5
 have HT:Hid (zJz w):=hT
 clear hT
 have HO:Hid (w.ownsRow B 5 1 v l.length (zcz l)):=hown
 clear hown
 go_enter Tryz.func199,Tryz.ntmps199
 go_wp2_with fail
 refine (zdlz _).mono ?_
 rintro e w' ⟨rfl,rfl⟩
 go_wp2_with fail
 refine (ziIz _ (zxz HT.out ((Below.refl _ _).alloc (Nat.le_refl _) _))).mono ?_
 rintro e w' ⟨rfl,rfl⟩
 go_wp2_with fail
 refine wp_loop_rounds 1 ?_
 rw[rounds_succ]
 go_wp2_with (at_builtin;refine wpList_append_own _ rfl _ _ 22 rfl B 5 i0 (.int .u8 0) 1 1 Tryz.underlying22 hi hz0 hz1 hz2 rfl (by decide) _ _ _ rfl (HO.out.alloc _) ⟨w.heap.size,64,none⟩ 1 1 (zcz (zCz u.toNat)) rfl (by rw[x2z,HH.out];rfl) (zflz ?_) (vmz _) (by unfold maxLen;omega) (by omega) (by simp;omega) ?_)
 ·rw[HH.out]
  intro j hj
  obtain rfl:j=0:=by simpa using hj
  rw[Array.getElem?_setIfInBounds_self_of_lt (by rw[ziJz];decide),x6z _ (by omega)]
  rfl
 intro v' w1 h2 h3 _
 have B1:Below B w w1:=((Below.refl B w).alloc hB _).grown h3 (by simp;omega) (fun k hk=>(HO.out.lt k hk).1)
 have R:w1.ownsRow B 5 1 v' (l++zCz u.toNat).length (zcz (l++zCz u.toNat)):=by
  rw[xhz,List.length_append,show (zCz u.toNat).length=1 by rw[HH.out];rfl]
  exact h2
 clear h2 h3
 go_wp2_with fail
 go_ret2
 exact ⟨_,rfl,R,B1⟩
theorem zjOz(u:Int)(B:Nat)(v:Value)(l:List UInt8)(w:World)(h0:16≤u)(h1:u<256)(hT:zJz w)(hown:w.ownsRow B 5 1 v l.length (zcz l))(hB:B≤w.heap.size)(hl:l.length≤1000):
  Calls Tryz.prog 199 #[v,.int .u64 u,.int .i64 16,.bool false,.bool true] w fun e w'=> ∃v',e=.returned (.tuple #[v',.string ⟨#[]⟩])∧w'.ownsRow B 5 1 v' (l++zCz u.toNat).length (zcz (l++zCz u.toNat))∧Below B w w':=by
 obtain ⟨q1,hq1⟩: ∃q1:Int,u/16=q1:=⟨_,rfl⟩
 obtain ⟨r0,hr0⟩: ∃r0:Int,u%16=r0:=⟨_,rfl⟩
 have HH:Hid (zCz u.toNat=[hxU q1.toNat,hxU r0.toNat]):=by
  show _=_
  unfold zCz
  rw[if_neg (by omega),if_pos (by omega),show u.toNat/16=q1.toNat by omega,show u.toNat%16=r0.toNat by omega]
 have c1:0≤q1:=by omega
 have c2:q1<16:=by omega
 have c3:0≤r0:=by omega
 have c4:r0<16:=by omega
 have b0:bits .and .u64 u 15=r0:=by rw[jDz _ (by omega) (by omega),hr0]
 clear hr0
 obtain ⟨i0,hi,hz0,hz1,hz2⟩:=info_parts Tryz.info5
 have HT:Hid (zJz w):=hT
 clear hT
 have HO:Hid (w.ownsRow B 5 1 v l.length (zcz l)):=hown
 clear hown
 go_enter Tryz.func199,Tryz.ntmps199
 go_wp2_with fail
 refine (zdlz _).mono ?_
 rintro e w' ⟨rfl,rfl⟩
 go_wp2_with fail
 refine (ziIz _ (zxz HT.out ((Below.refl _ _).alloc (Nat.le_refl _) _))).mono ?_
 rintro e w' ⟨rfl,rfl⟩
 go_wp2_with fail
 refine wp_loop_rounds 2 ?_
 rw[rounds_succ]
 go_wp2_with fail
 rw[rounds_succ]
 go_wp2_with (at_builtin;refine wpList_append_own _ rfl _ _ 22 rfl B 5 i0 (.int .u8 0) 1 1 Tryz.underlying22 hi hz0 hz1 hz2 rfl (by decide) _ _ _ rfl (HO.out.alloc _) ⟨w.heap.size,63,none⟩ 2 2 (zcz (zCz u.toNat)) rfl (by rw[x2z,HH.out];rfl) (zflz ?_) (vmz _) (by unfold maxLen;omega) (by omega) (by simp;omega) ?_)
 ·rw[HH.out,x6z r0.toNat (by omega),x6z q1.toNat (by omega)]
  intro j hj
  have h3:j=0∨j=1:=by simp at hj;omega
  rcases h3 with rfl|rfl<;>simp[Array.getElem?_setIfInBounds,ziJz]
 intro v' w1 h2 h3 _
 have B1:Below B w w1:=((Below.refl B w).alloc hB _).grown h3 (by simp;omega) (fun k hk=>(HO.out.lt k hk).1)
 have R:w1.ownsRow B 5 1 v' (l++zCz u.toNat).length (zcz (l++zCz u.toNat)):=by
  rw[xhz,List.length_append,show (zCz u.toNat).length=2 by rw[HH.out];rfl]
  exact h2
 clear h2 h3
 go_wp2_with fail
 go_ret2
 exact ⟨_,rfl,R,B1⟩
theorem zjPz(u:Int)(B:Nat)(v:Value)(l:List UInt8)(w:World)(h0:256≤u)(h1:u<4096)(hT:zJz w)(hown:w.ownsRow B 5 1 v l.length (zcz l))(hB:B≤w.heap.size)(hl:l.length≤1000):
  Calls Tryz.prog 199 #[v,.int .u64 u,.int .i64 16,.bool false,.bool true] w fun e w'=> ∃v',e=.returned (.tuple #[v',.string ⟨#[]⟩])∧w'.ownsRow B 5 1 v' (l++zCz u.toNat).length (zcz (l++zCz u.toNat))∧Below B w w':=by
 obtain ⟨q1,hq1⟩: ∃q1:Int,u/16=q1:=⟨_,rfl⟩
 obtain ⟨r0,hr0⟩: ∃r0:Int,u%16=r0:=⟨_,rfl⟩
 obtain ⟨q2,hq2⟩: ∃q2:Int,q1/16=q2:=⟨_,rfl⟩
 obtain ⟨r1,hr1⟩: ∃r1:Int,q1%16=r1:=⟨_,rfl⟩
 have HH:Hid (zCz u.toNat=[hxU q2.toNat,hxU r1.toNat,hxU r0.toNat]):=by
  show _=_
  unfold zCz
  rw[if_neg (by omega),if_neg (by omega),if_pos (by omega),show u.toNat/256=q2.toNat by omega,show u.toNat/16%16=r1.toNat by omega,show u.toNat%16=r0.toNat by omega]
 have c1:16≤q1:=by omega
 have c2:q1<256:=by omega
 have c3:0≤r0:=by omega
 have c4:r0<16:=by omega
 have c5:0≤q2:=by omega
 have c6:q2<16:=by omega
 have c7:0≤r1:=by omega
 have c8:r1<16:=by omega
 have b0:bits .and .u64 u 15=r0:=by rw[jDz _ (by omega) (by omega),hr0]
 have b1:bits .and .u64 q1 15=r1:=by rw[jDz _ (by omega) (by omega),hr1]
 clear hr0 hr1
 obtain ⟨i0,hi,hz0,hz1,hz2⟩:=info_parts Tryz.info5
 have HT:Hid (zJz w):=hT
 clear hT
 have HO:Hid (w.ownsRow B 5 1 v l.length (zcz l)):=hown
 clear hown
 go_enter Tryz.func199,Tryz.ntmps199
 go_wp2_with fail
 refine (zdlz _).mono ?_
 rintro e w' ⟨rfl,rfl⟩
 go_wp2_with fail
 refine (ziIz _ (zxz HT.out ((Below.refl _ _).alloc (Nat.le_refl _) _))).mono ?_
 rintro e w' ⟨rfl,rfl⟩
 go_wp2_with fail
 refine wp_loop_rounds 3 ?_
 rw[rounds_succ]
 go_wp2_with fail
 rw[rounds_succ]
 go_wp2_with fail
 rw[rounds_succ]
 go_wp2_with (at_builtin;refine wpList_append_own _ rfl _ _ 22 rfl B 5 i0 (.int .u8 0) 1 1 Tryz.underlying22 hi hz0 hz1 hz2 rfl (by decide) _ _ _ rfl (HO.out.alloc _) ⟨w.heap.size,62,none⟩ 3 3 (zcz (zCz u.toNat)) rfl (by rw[x2z,HH.out];rfl) (zflz ?_) (vmz _) (by unfold maxLen;omega) (by omega) (by simp;omega) ?_)
 ·rw[HH.out,x6z r0.toNat (by omega),x6z r1.toNat (by omega),x6z q2.toNat (by omega)]
  intro j hj
  have h3:j=0∨j=1∨j=2:=by simp at hj;omega
  rcases h3 with rfl|rfl|rfl<;>simp[Array.getElem?_setIfInBounds,ziJz]
 intro v' w1 h2 h3 _
 have B1:Below B w w1:=((Below.refl B w).alloc hB _).grown h3 (by simp;omega) (fun k hk=>(HO.out.lt k hk).1)
 have R:w1.ownsRow B 5 1 v' (l++zCz u.toNat).length (zcz (l++zCz u.toNat)):=by
  rw[xhz,List.length_append,show (zCz u.toNat).length=3 by rw[HH.out];rfl]
  exact h2
 clear h2 h3
 go_wp2_with fail
 go_ret2
 exact ⟨_,rfl,R,B1⟩
theorem zjQz(u:Int)(B:Nat)(v:Value)(l:List UInt8)(w:World)(h0:4096≤u)(h1:u<65536)(hT:zJz w)(hown:w.ownsRow B 5 1 v l.length (zcz l))(hB:B≤w.heap.size)(hl:l.length≤1000):
  Calls Tryz.prog 199 #[v,.int .u64 u,.int .i64 16,.bool false,.bool true] w fun e w'=> ∃v',e=.returned (.tuple #[v',.string ⟨#[]⟩])∧w'.ownsRow B 5 1 v' (l++zCz u.toNat).length (zcz (l++zCz u.toNat))∧Below B w w':=by
 obtain ⟨q1,hq1⟩: ∃q1:Int,u/16=q1:=⟨_,rfl⟩
 obtain ⟨r0,hr0⟩: ∃r0:Int,u%16=r0:=⟨_,rfl⟩
 obtain ⟨q2,hq2⟩: ∃q2:Int,q1/16=q2:=⟨_,rfl⟩
 obtain ⟨r1,hr1⟩: ∃r1:Int,q1%16=r1:=⟨_,rfl⟩
 obtain ⟨q3,hq3⟩: ∃q3:Int,q2/16=q3:=⟨_,rfl⟩
 obtain ⟨r2,hr2⟩: ∃r2:Int,q2%16=r2:=⟨_,rfl⟩
 have HH:Hid (zCz u.toNat=[hxU q3.toNat,hxU r2.toNat,hxU r1.toNat,hxU r0.toNat]):=by
  show _=_
  unfold zCz
  rw[if_neg (by omega),if_neg (by omega),if_neg (by omega),show u.toNat/4096=q3.toNat by omega,show u.toNat/256%16=r2.toNat by omega,show u.toNat/16%16=r1.toNat by omega,show u.toNat%16=r0.toNat by omega]
 have c1:256≤q1:=by omega
 have c2:q1<4096:=by omega
 have c3:0≤r0:=by omega
 have c4:r0<16:=by omega
 have c5:16≤q2:=by omega
 have c6:q2<256:=by omega
 have c7:0≤r1:=by omega
 have c8:r1<16:=by omega
 have d5:0≤q3:=by omega
 have d6:q3<16:=by omega
 have d7:0≤r2:=by omega
 have d8:r2<16:=by omega
 have b0:bits .and .u64 u 15=r0:=by rw[jDz _ (by omega) (by omega),hr0]
 have b1:bits .and .u64 q1 15=r1:=by rw[jDz _ (by omega) (by omega),hr1]
 have b2:bits .and .u64 q2 15=r2:=by rw[jDz _ (by omega) (by omega),hr2]
 clear hr0 hr1 hr2
 obtain ⟨i0,hi,hz0,hz1,hz2⟩:=info_parts Tryz.info5
 have HT:Hid (zJz w):=hT
 clear hT
 have HO:Hid (w.ownsRow B 5 1 v l.length (zcz l)):=hown
 clear hown
 go_enter Tryz.func199,Tryz.ntmps199
 go_wp2_with fail
 refine (zdlz _).mono ?_
 rintro e w' ⟨rfl,rfl⟩
 go_wp2_with fail
 refine (ziIz _ (zxz HT.out ((Below.refl _ _).alloc (Nat.le_refl _) _))).mono ?_
 rintro e w' ⟨rfl,rfl⟩
 go_wp2_with fail
 refine wp_loop_rounds 4 ?_
 rw[rounds_succ]
 go_wp2_with fail
 rw[rounds_succ]
 go_wp2_with fail
 rw[rounds_succ]
 go_wp2_with fail
 rw[rounds_succ]
 go_wp2_with (at_builtin;refine wpList_append_own _ rfl _ _ 22 rfl B 5 i0 (.int .u8 0) 1 1 Tryz.underlying22 hi hz0 hz1 hz2 rfl (by decide) _ _ _ rfl (HO.out.alloc _) ⟨w.heap.size,61,none⟩ 4 4 (zcz (zCz u.toNat)) rfl (by rw[x2z,HH.out];rfl) (zflz ?_) (vmz _) (by unfold maxLen;omega) (by omega) (by simp;omega) ?_)
 ·rw[HH.out,x6z r0.toNat (by omega),x6z r1.toNat (by omega),x6z r2.toNat (by omega),x6z q3.toNat (by omega)]
  intro j hj
  have h3:j=0∨j=1∨j=2∨j=3:=by simp at hj;omega
  rcases h3 with rfl|rfl|rfl|rfl<;>simp[Array.getElem?_setIfInBounds,ziJz]
 intro v' w1 h2 h3 _
 have B1:Below B w w1:=((Below.refl B w).alloc hB _).grown h3 (by simp;omega) (fun k hk=>(HO.out.lt k hk).1)
 have R:w1.ownsRow B 5 1 v' (l++zCz u.toNat).length (zcz (l++zCz u.toNat)):=by
  rw[xhz,List.length_append,show (zCz u.toNat).length=4 by rw[HH.out];rfl]
  exact h2
 clear h2 h3
 go_wp2_with fail
 go_ret2
 exact ⟨_,rfl,R,B1⟩
theorem zlHz(u:Int)(B:Nat)(v:Value)(l:List UInt8)(w:World)(h0:0≤u)(h1:u<65536)(hT:zJz w)(hown:w.ownsRow B 5 1 v l.length (zcz l))(hB:B≤w.heap.size)(hl:l.length≤1000):
  Calls Tryz.prog 199 #[v,.int .u64 u,.int .i64 16,.bool false,.bool true] w fun e w'=> ∃v',e=.returned (.tuple #[v',.string ⟨#[]⟩])∧w'.ownsRow B 5 1 v' (l++zCz u.toNat).length (zcz (l++zCz u.toNat))∧Below B w w':=by
 by_cases c1:u<16
 ·exact zjNz u B v l w h0 c1 hT hown hB hl
 by_cases c2:u<256
 ·exact zjOz u B v l w (by omega) c2 hT hown hB hl
 by_cases c3:u<4096
 ·exact zjPz u B v l w (by omega) c3 hT hown hB hl
 exact zjQz u B v l w (by omega) h1 hT hown hB hl
theorem zlIz(u:Int)(B:Nat)(v:Value)(l:List UInt8)(w:World)(h0:0≤u)(h1:u<65536)(hT:zJz w)(hown:w.ownsRow B 5 1 v l.length (zcz l))(hB:B≤w.heap.size)(hl:l.length≤1000):
  Calls Tryz.prog 192 #[v,.int .i64 u,.int .i64 16] w fun e w'=> ∃v',e=.returned v'∧w'.ownsRow B 5 1 v' (l++zCz u.toNat).length (zcz (l++zCz u.toNat))∧Below B w w':=by
 have CF:Hid (∀W,W=w→Calls Tryz.prog 199 #[v,.int .u64 u,.int .i64 16,.bool false,.bool true] W fun e w'=> ∃v',e=.returned (.tuple #[v',.string ⟨#[]⟩])∧w'.ownsRow B 5 1 v' (l++zCz u.toNat).length (zcz (l++zCz u.toNat))∧Below B w w'):=fun W h=>by subst h;exact zlHz u B v l _ h0 h1 hT hown hB hl
 clear hT hown
 have CU:Calls Tryz.prog 258 #[v,.int .u64 u,.int .i64 16] w fun e w'=> ∃v',e=.returned v'∧w'.ownsRow B 5 1 v' (l++zCz u.toNat).length (zcz (l++zCz u.toNat))∧Below B w w':=by
  go_enter Tryz.func258,Tryz.ntmps258
  go_wp2_with fail
  refine (CF.out _ rfl).mono ?_
  rintro e w' ⟨v',rfl,h2,h3⟩
  go_wp2_with fail
  go_ret
  exact ⟨_,rfl,h2,h3⟩
 have CU:Hid (Calls Tryz.prog 258 #[v,.int .u64 u,.int .i64 16] w fun e w'=> ∃v',e=.returned v'∧w'.ownsRow B 5 1 v' (l++zCz u.toNat).length (zcz (l++zCz u.toNat))∧Below B w w'):=CU
 clear CF
 have CI:Calls Tryz.prog 231 #[v,.int .i64 u,.int .i64 16] w fun e w'=> ∃v',e=.returned v'∧w'.ownsRow B 5 1 v' (l++zCz u.toNat).length (zcz (l++zCz u.toNat))∧Below B w w':=by
  go_enter Tryz.func231,Tryz.ntmps231
  go_wp2_with fail
  refine CU.out.mono ?_
  rintro e w' ⟨v',rfl,h2,h3⟩
  go_wp2_with fail
  go_ret
  exact ⟨_,rfl,h2,h3⟩
 have CI:Hid (Calls Tryz.prog 231 #[v,.int .i64 u,.int .i64 16] w fun e w'=> ∃v',e=.returned v'∧w'.ownsRow B 5 1 v' (l++zCz u.toNat).length (zcz (l++zCz u.toNat))∧Below B w w'):=CI
 clear CU
 go_enter Tryz.func192,Tryz.ntmps192
 go_wp2_with fail
 refine CI.out.mono ?_
 rintro e w' ⟨v',rfl,h2,h3⟩
 go_wp2_with fail
 go_ret
 exact ⟨_,rfl,h2,h3⟩
end Go.Proofs.YtgcbaphbiaimoaaGreatDoor
namespace Go.Proofs.YtgcbaphbiaimoaaGreatDoor
open Go.ChangeShapes Go.WideShapes Go.ChangeAt Go.RowKit Go.Lib
def zpDz:List Int:=[0,1,56,2,57,49,28,3,61,58,42,50,38,29,17,4,62,47,59,36,45,43,51,22,53,39,33,30,24,18,12,5,63,55,48,27,60,41,37,16,46,35,44,21,52,32,23,11,54,26,40,15,34,20,31,10,25,14,19,9,13,8,7,6]
theorem zpEz:(Rows.laid_math_bits_deBruijn64tab:DataW Unit)=Lib.tabData .u8 zpDz:=by kernel_rfl
def zpFz(h:Array Obj):Array Obj:=zpfz (zr3z h)
end Go.Proofs.YtgcbaphbiaimoaaGreatDoor
namespace Go.Proofs.YtgcbaphbiaimoaaGreatDoor
open Go.RowKit
theorem jrz(c:Nat)(w:World)(hc:(c:Int)≤255):
  Calls Tryz.prog 217 #[.int .u8 (c:Int)] w fun e w'=>e=.returned (.bool (yKz c))∧w=w':=by
 by_cases h1:97≤(c:Int)
 ·by_cases h2:(c:Int)≤122
  ·have HV:Hid (yKz c=true):=by show _=_;unfold yKz;simp;omega
   go_enter Tryz.func217,Tryz.ntmps217
   go_wp2
   go_ret
   exact ⟨zgz (by rw[HV.out]<;>first|rfl|(simp<;>omega)),rfl⟩
  have HV:Hid (yKz c=false):=by show _=_;unfold yKz;simp;omega
  have h3:65≤(c:Int):=by omega
  have h4: ¬(c:Int)≤90:=by omega
  go_enter Tryz.func217,Tryz.ntmps217
  go_wp2
  go_ret
  exact ⟨zgz (by rw[HV.out]<;>first|rfl|(simp<;>omega)),rfl⟩
 by_cases h3:65≤(c:Int)
 ·by_cases h4:(c:Int)≤90
  ·have HV:Hid (yKz c=true):=by show _=_;unfold yKz;simp;omega
   go_enter Tryz.func217,Tryz.ntmps217
   go_wp2
   go_ret
   exact ⟨zgz (by rw[HV.out]<;>first|rfl|(simp<;>omega)),rfl⟩
  have HV:Hid (yKz c=false):=by show _=_;unfold yKz;simp;omega
  go_enter Tryz.func217,Tryz.ntmps217
  go_wp2
  go_ret
  exact ⟨zgz (by rw[HV.out]<;>first|rfl|(simp<;>omega)),rfl⟩
 have HV:Hid (yKz c=false):=by show _=_;unfold yKz;simp;omega
 go_enter Tryz.func217,Tryz.ntmps217
 go_wp2
 go_ret
 exact ⟨zgz (by rw[HV.out]<;>first|rfl|(simp<;>omega)),rfl⟩
def yOz(l:List UInt8)(c:Int):Bool:=l.any fun b=>decide ((b.toNat:Int)=c)
theorem zb8z(s:ByteArray)(c:Int)(w:World)(hs:s.size≤1048576):
  Calls Tryz.prog 55 #[.string s,.int .i64 c] w fun e w'=>e=.returned (.bool (yOz s.data.toList c))∧w=w':=by
 go_enter Tryz.func55,Tryz.ntmps55
 go_wp2
 go_loop[5] (fun i=> ∃k:Nat,k≤s.size∧i=.int .i64 k∧yOz (s.data.toList.take k) c=false) (fun i=>s.size-(intOf i).toNat)
 case atStart=>exact ⟨0,Nat.zero_le _,rfl,rfl⟩
 obtain ⟨k,hk,rfl,hno⟩:=hrel
 have HN:Hid (yOz (s.data.toList.take k) c=false):=hno
 clear hno
 by_cases hlt:k<s.size
 ·obtain ⟨d,hd⟩: ∃d:Nat,s[k].toNat=d:=⟨_,rfl⟩
  have hd1:(d:Int)≤255:=by have:=s[k].toNat_lt;omega
  by_cases he:(d:Int)=c
  ·have HV:Hid (yOz s.data.toList c=true):=by
    show _=_
    unfold yOz
    refine List.any_eq_true.2 ⟨s[k],?_,by rw[hd];exact decide_eq_true he⟩
    have:s[k]∈s.data:=Array.getElem_mem _
    simpa using this
   go_wp2
   go_ret
   exact ⟨zgz (by rw[HV.out]),rfl⟩
  have HN2:Hid (yOz (s.data.toList.take (k+1)) c=false):=by
   show _=_
   have h:=HN.out
   unfold yOz at h⊢
   rw[xez s k hlt,List.any_append,h]
   simp[hd,he]
  go_wp2
  go_round
  case rel=>exact ⟨k+1,by omega,by go_num,HN2.out⟩
  case measure=>simp[intOf];omega
 have HV:Hid (yOz s.data.toList c=false):=by
  show _=_
  have h:=HN.out
  rw[ynz s k (by omega)]at h
  exact h
 go_wp2
 go_ret
 exact ⟨zgz (by rw[HV.out]),rfl⟩
def vSz(c:Int):Bool:=decide (97≤c∧c≤122)||decide (65≤c∧c≤90)
theorem zlJz(c:Int)(w:World):Calls Tryz.prog 125 #[.int .i64 c] w fun e w'=>e=.returned (.bool (vSz c))∧w=w':=by
 by_cases h1:97≤c∧c≤122
 ·have HV:Hid (vSz c=true):=by show _=_;unfold vSz;rw[decide_eq_true h1];rfl
  have H1:Hid (97≤c∧c≤122):=h1
  clear h1
  go_enter Tryz.func125,Tryz.ntmps125
  go_wp2_with fail
  refine (zfz _ _ _ _ H1.out.1 H1.out.2).mono ?_
  rintro e w' ⟨rfl,rfl⟩
  go_wp2
  go_ret
  exact ⟨zgz (by rw[HV.out]),rfl⟩
 have HV:Hid (vSz c=decide (65≤c∧c≤90)):=by show _=_;unfold vSz;rw[decide_eq_false h1];rfl
 have H1:Hid (c<97∨122<c):=by show _∨_;omega
 clear h1
 go_enter Tryz.func125,Tryz.ntmps125
 go_wp2_with fail
 refine (zlz _ _ _ _ H1.out).mono ?_
 rintro e w' ⟨rfl,rfl⟩
 go_wp2_with fail
 refine (zpjz _ _ _ _).mono ?_
 rintro e w' ⟨rfl,rfl⟩
 generalize decide (65≤c∧c≤90)=b at HV
 go_wp2
 go_ret
 exact ⟨zgz (by rw[HV.out]),rfl⟩
def xLz(w:World):Prop:= ∀c:Nat,c<128→w.cell? ⟨6,c,none⟩=some (.bool (vnz c))∧w.cell? ⟨9,c,none⟩=some (.bool (zaxz c))
theorem xLz.later{w w':World}(h:xLz w)(hb:Below w.heap.size w w'):xLz w':=fun c hc=>
 ⟨(World.cell?_of_block (w:=w) (a:=⟨6,c,none⟩) (hb.block _ (World.block_lt_of_cell? w _ (h c hc).1))).trans (h c hc).1,
  (World.cell?_of_block (w:=w) (a:=⟨9,c,none⟩) (hb.block _ (World.block_lt_of_cell? w _ (h c hc).2))).trans (h c hc).2⟩
theorem zfTz(c:Nat):decide (48≤(c:Int)∧(c:Int)≤57)=jdz c:=by
 unfold jdz
 exact decide_eq_decide.2 (by omega)
theorem zbFz(c:Nat)(w:World)(hM:xLz w)(hc:(c:Int)≤255):
  Calls Tryz.prog 158 #[.int .u8 (c:Int)] w fun e w'=>e=.returned (.bool (yXz c))∧w=w':=by
 have hc0:0≤(c:Int):=by omega
 cases hl:yKz c with
 |true=>
  have HL:Hid (yKz c=true):=hl
  have HV:Hid (yXz c=true):=by show _=_;unfold yXz;rw[hl];rfl
  clear hl hM
  go_enter Tryz.func158,Tryz.ntmps158
  go_wp2_with fail
  refine (jrz c _ hc).mono ?_
  rintro e w' ⟨rfl,rfl⟩
  rw[HL.out]
  go_wp2
  go_ret
  exact ⟨zgz (by rw[HV.out]),rfl⟩
 |false=>
  have HL:Hid (yKz c=false):=hl
  cases hg:jdz c with
  |true=>
   have HG:Hid (jdz c=true):=hg
   have HV:Hid (yXz c=true):=by show _=_;unfold yXz;rw[hl,hg];rfl
   clear hl hg hM
   go_enter Tryz.func158,Tryz.ntmps158
   go_wp2_with fail
   refine (jrz c _ hc).mono ?_
   rintro e w' ⟨rfl,rfl⟩
   rw[HL.out]
   go_wp2_with fail
   refine (xfz c _ (by omega)).mono ?_
   rintro e w' ⟨rfl,rfl⟩
   rw[zfTz,HG.out]
   go_wp2
   go_ret
   exact ⟨zgz (by rw[HV.out]),rfl⟩
  |false=>
   have HG:Hid (jdz c=false):=hg
   by_cases h128:(c:Int)<128
   ·have hcell:=(hM c (by omega)).1
    have HV:Hid (yXz c=vnz c):=by show _=_;unfold yXz;rw[hl,hg];rfl
    generalize vnz c=b at hcell HV
    clear hl hg hM
    go_enter Tryz.func158,Tryz.ntmps158
    go_wp2_with fail
    refine (jrz c _ hc).mono ?_
    rintro e w' ⟨rfl,rfl⟩
    rw[HL.out]
    go_wp2_with fail
    refine (xfz c _ (by omega)).mono ?_
    rintro e w' ⟨rfl,rfl⟩
    rw[zfTz,HG.out]
    go_wp2
    go_ret
    exact ⟨zgz (by rw[HV.out]),rfl⟩
   have HV:Hid (yXz c=false):=by
    show _=_
    cases hx:yXz c with
    |false=>rfl
    |true=>have:=zrWz hx;omega
   have h129:128≤(c:Int):=by omega
   clear hl hg hM h128
   go_enter Tryz.func158,Tryz.ntmps158
   go_wp2_with fail
   refine (jrz c _ hc).mono ?_
   rintro e w' ⟨rfl,rfl⟩
   rw[HL.out]
   go_wp2_with fail
   refine (xfz c _ (by omega)).mono ?_
   rintro e w' ⟨rfl,rfl⟩
   rw[zfTz,HG.out]
   go_wp2
   go_ret
   exact ⟨zgz (by rw[HV.out]),rfl⟩
theorem zehz{set:Int}(c:Int)(h: ¬(1≤set∧set≤3)):vEz set c=false:=by
 unfold vEz
 rw[zphz h]
 simp
theorem zn3z(set:Int){c:Int}(h:c<0):vEz set c=false:=by
 unfold vEz
 rw[decide_eq_false (by omega)]
 rfl
theorem zn4z(set:Int){c:Int}(h:128≤c):vEz set c=false:=by
 unfold vEz
 cases hx:yHz set c.toNat with
 |false=>simp
 |true=>have:=zrXz hx;omega
theorem zeiz(set:Int)(n:Nat):vEz set (n:Int)=yHz set n:=by simp[vEz]
theorem zjRz{set:Int}(h:1≤set∧set≤3):yHz set 47=decide (set≠3):=by simp[yHz,h,yXz,yKz,jdz,vnz,zaxz]
theorem zjSz{set:Int}(h:1≤set∧set≤3):yHz set 63=decide (set=2):=by simp[yHz,h,yXz,yKz,jdz,vnz,zaxz]
theorem zlKz{set:Int}{n:Nat}(h:1≤set∧set≤3)(h1:n≠47)(h2:n≠63):yHz set n=(zaxz n||yXz n):=by
 simp[yHz,h,h1,h2,Bool.or_comm]
theorem zn5z(set c:Int)(w:World)(hM:xLz w):
  Calls Tryz.prog 216 #[.int .i64 set,.int .i64 c] w fun e w'=>e=.returned (.bool (vEz set c))∧w=w':=by
 by_cases h1:set<1
 ·have HV:Hid (vEz set c=false):=zehz c (by omega)
  clear hM
  go_enter Tryz.func216,Tryz.ntmps216
  go_wp2
  go_ret
  exact ⟨zgz (by rw[HV.out]),rfl⟩
 by_cases h3:3<set
 ·have HV:Hid (vEz set c=false):=zehz c (by omega)
  clear hM
  go_enter Tryz.func216,Tryz.ntmps216
  go_wp2
  go_ret
  exact ⟨zgz (by rw[HV.out]),rfl⟩
 by_cases hc0:c<0
 ·have HV:Hid (vEz set c=false):=zn3z set hc0
  clear hM
  go_enter Tryz.func216,Tryz.ntmps216
  go_wp2
  go_ret
  exact ⟨zgz (by rw[HV.out]),rfl⟩
 by_cases hc1:128≤c
 ·have HV:Hid (vEz set c=false):=zn4z set hc1
  clear hM
  go_enter Tryz.func216,Tryz.ntmps216
  go_wp2
  go_ret
  exact ⟨zgz (by rw[HV.out]),rfl⟩
 have hv:1≤set∧set≤3:=by omega
 obtain ⟨n,rfl⟩:=Int.eq_ofNat_of_zero_le (show 0≤c by omega)
 rw[zeiz]
 have hc2:(n:Int)<128:=by omega
 have hc3:0≤(n:Int):=by omega
 clear hc0 hc1
 by_cases hs:n=47
 ·subst hs
  have HV:Hid (yHz set 47=decide (set≠3)):=zjRz hv
  clear hM
  by_cases he:set=3
  ·go_enter Tryz.func216,Tryz.ntmps216
   go_wp2
   go_ret
   exact ⟨zgz (by first|(rw[HV.out];simp[he])|decide),rfl⟩
  go_enter Tryz.func216,Tryz.ntmps216
  go_wp2
  go_ret
  exact ⟨zgz (by first|(rw[HV.out];simp[he])|decide),rfl⟩
 by_cases hq:n=63
 ·subst hq
  have HV:Hid (yHz set 63=decide (set=2)):=zjSz hv
  clear hM
  by_cases he:set=2
  ·go_enter Tryz.func216,Tryz.ntmps216
   go_wp2
   go_ret
   exact ⟨zgz (by first|(rw[HV.out];simp[he])|decide),rfl⟩
  go_enter Tryz.func216,Tryz.ntmps216
  go_wp2
  go_ret
  exact ⟨zgz (by first|(rw[HV.out];simp[he])|decide),rfl⟩
 have HV:Hid (yHz set n=(zaxz n||yXz n)):=zlKz hv hs hq
 have hs': ¬(n:Int)=47:=by omega
 have hq': ¬(n:Int)=63:=by omega
 have hcell:=(hM n (by omega)).2
 have HM:Hid (xLz w):=hM
 clear hM hs hq hv
 generalize zaxz n=b at hcell HV
 cases b with
 |true=>
  go_enter Tryz.func216,Tryz.ntmps216
  go_wp2
  go_ret
  exact ⟨zgz (by rw[HV.out];rfl),rfl⟩
 |false=>
  go_enter Tryz.func216,Tryz.ntmps216
  go_wp2_with fail
  refine (zbFz n _ HM.out (by omega)).mono ?_
  rintro e w' ⟨rfl,rfl⟩
  go_wp2
  go_ret
  exact ⟨zgz (by rw[HV.out];rfl),rfl⟩
end Go.Proofs.YtgcbaphbiaimoaaGreatDoor
