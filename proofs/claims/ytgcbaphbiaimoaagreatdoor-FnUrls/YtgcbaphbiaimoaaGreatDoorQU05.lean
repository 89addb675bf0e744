/- Ip6Plain, HexImpl, LaidBru, LaidHost, LetWalk, KeepWalk, LaidMarks. -/
import Derived.Test.YtgcbaphbiaimoaaGreatDoorQU04
import Derived.OpenVars
set_option maxHeartbeats 4000000
set_option maxRecDepth 20000
namespace Go.Proofs.YtgcbaphbiaimoaaGreatDoor
open Go.RowKit
def hxU(i:Nat):UInt8:=UInt8.ofNat (if i<10 then 48+i else 87+i)
def zBz(n:Nat):List UInt8:=if n<16 then [hxU n]else if n<256 then [hxU (n/16),hxU (n%16)]else if n<4096 then [hxU (n/256),hxU (n/16%16),hxU (n%16)]else [hxU (n/4096),hxU (n/256%16),hxU (n/16%16),hxU (n%16)]
theorem zrbz: ∀i,i<16→zEz (hxU i).toNat=(i:Int):=by decide+kernel
theorem zhWz: ∀i,i<16→hxU i≠58∧hxU i≠46:=by decide+kernel
theorem vLz{i n:Nat}(h:i<16)(r:List UInt8):y4z 16 n (hxU i::r)=y4z 16 (n*16+i) r:=by
 rw[y4z,zrbz i h,if_pos (by omega)]
 rfl
theorem zoFz{n:Nat}(h:n<65536):yhz 16 4 (zBz n)=some n:=by
 unfold zBz yhz
 split
 ·rw[if_pos (by simp),vLz (by omega),y4z]
  congr 1
  omega
 split
 ·rw[if_pos (by simp),vLz (by omega),vLz (by omega),y4z]
  congr 1
  omega
 split
 ·rw[if_pos (by simp),vLz (by omega),vLz (by omega),vLz (by omega),y4z]
  congr 1
  omega
 rw[if_pos (by simp),vLz (by omega),vLz (by omega),vLz (by omega),vLz (by omega),y4z]
 congr 1
 omega
theorem zbKz{n:Nat}(h:n<65536): ∀c∈zBz n,c≠58∧c≠46:=by
 intro c hc
 unfold zBz at hc
 split at hc
 ·simp only[List.mem_cons,List.not_mem_nil,or_false]at hc
  subst hc
  exact zhWz _ (by omega)
 split at hc
 ·simp only[List.mem_cons,List.not_mem_nil,or_false]at hc
  rcases hc with rfl|rfl<;>exact zhWz _ (by omega)
 split at hc
 ·simp only[List.mem_cons,List.not_mem_nil,or_false]at hc
  rcases hc with rfl|rfl|rfl<;>exact zhWz _ (by omega)
 simp only[List.mem_cons,List.not_mem_nil,or_false]at hc
 rcases hc with rfl|rfl|rfl|rfl<;>exact zhWz _ (by omega)
theorem vYz(n:Nat):1≤(zBz n).length∧(zBz n).length≤4:=by
 unfold zBz
 split
 ·simp
 split
 ·simp
 split<;>simp
theorem zhXz(n:Nat):(zBz n).isEmpty=false:=by
 have:=(vYz n).1
 cases h:zBz n with
 |nil=>rw[h]at this;simp at this
 |cons _ _=>rfl
theorem zfaz(n:Nat):zBz n≠[]:=by
 intro e
 have h:=zhXz n
 rw[e]at h
 cases h
def z6z:List UInt8→Option (List UInt8×List UInt8)
 |[]=>none
 |c::r=>if c=58∧r.head? =some 58 then some ([],r.tail)else (z6z r).map fun p=>(c::p.1,p.2)
theorem zeGz: ∀{l:List UInt8},(∀c∈l,c≠58)→z6z l=none
 |[],_=>rfl
 |c::r,h=>by
  rw[z6z,if_neg (fun e=>h c List.mem_cons_self e.1),zeGz (fun d hd=>h d (List.mem_cons_of_mem _ hd))]
  rfl
theorem zcUz{x:List UInt8}(hx:z6z x=none)(hne:x.head? ≠some 58): ∀p,z6z (p++x)=(z6z p).map fun q=>(q.1,q.2++x)
 |[]=>by rw[List.nil_append,hx];rfl
 |[c]=>by
  rw[List.cons_append,List.nil_append,z6z,if_neg (fun e=>hne e.2),hx]
  simp[z6z]
 |c::d::r=>by
  have ih:=zcUz hx hne (d::r)
  rw[List.cons_append,z6z,z6z]
  by_cases h:c=58∧d=58
  ·rw[if_pos (by simpa using h),if_pos (by simpa using h)]
   simp
  rw[if_neg (by simpa using h),if_neg (by simpa using h),ih]
  cases z6z (d::r)<;>rfl
theorem zcVz(y:List UInt8): ∀{p:List UInt8},(∀c∈p,c≠58)→z6z (p++y)=(z6z y).map fun q=>(p++q.1,q.2)
 |[],_=>by
  rw[List.nil_append]
  cases z6z y<;>rfl
 |c::r,h=>by
  rw[List.cons_append,z6z,if_neg (fun e=>h c List.mem_cons_self e.1),zcVz y (fun d hd=>h d (List.mem_cons_of_mem _ hd))]
  cases z6z y<;>rfl
theorem zcoz: ∀{l a b:List UInt8},z6z l=some (a,b)→l=a++58::58::b
 |[],_,_,h=>by cases h
 |c::r,a,b,h=>by
  rw[z6z]at h
  split at h
  ·rename_i hc
   cases h
   obtain ⟨rfl,hr⟩:=hc
   cases r with
   |nil=>simp at hr
   |cons d q=>simp at hr;subst hr;rfl
  cases hr:z6z r with
  |none=>rw[hr]at h;cases h
  |some p=>
   rw[hr]at h
   cases h
   rw[List.cons_append,←zcoz (a:=p.1) (b:=p.2) hr]
def zfbz(x:List UInt8):Prop:=x≠[]∧ ∀c∈x,c≠58
theorem zhYz{b:UInt8}{x:List UInt8}{r:List (List UInt8)}(hx:zfbz x):(jl b (x::r)).head? ≠some 58:=by
 obtain ⟨h1,h2⟩:=hx
 cases x with
 |nil=>exact absurd rfl h1
 |cons c q=>
  have hc:=h2 c List.mem_cons_self
  cases r<;>simp[jl,hc]
theorem zk4z: ∀{fs:List (List UInt8)},(∀x∈fs,zfbz x)→z6z (jl 58 fs)=none
 |[],_=>rfl
 |[x],h=>zeGz (h x List.mem_cons_self).2
 |x::y::r,h=>by
  have ih:=zk4z (fs:=y::r) fun z hz=>h z (List.mem_cons_of_mem _ hz)
  rw[jl,zcVz _ (h x List.mem_cons_self).2,z6z,if_neg (fun e=>zhYz (h y (by simp)) e.2),ih]
  rfl
theorem zi7z(B:List UInt8): ∀{fs:List (List UInt8)},(∀x∈fs,zfbz x)→z6z (jl 58 fs++58::58::B)=some (jl 58 fs,B)
 |[],_=>by simp[jl,z6z]
 |[x],h=>by
  rw[jl,zcVz _ (h x List.mem_cons_self).2,z6z,if_pos (by simp)]
  simp
 |x::y::r,h=>by
  have ih:=zi7z B (fs:=y::r) fun z hz=>h z (List.mem_cons_of_mem _ hz)
  have hh:=zhYz (b:=58) (r:=r) (h y (by simp))
  rw[jl,List.append_assoc,zcVz _ (h x List.mem_cons_self).2,List.cons_append,z6z,if_neg ?_,ih]
  ·rfl
  intro e
  apply hh
  cases hj:jl 58 (y::r)with
  |nil=>
   have h1:=h y (by simp)
   cases r<;>simp[jl]at hj
   exact absurd hj h1.1
  |cons c q=>
   rw[hj]at e
   simpa using e.2
def g16(x:List UInt8):Option Nat:=if x.isEmpty then none else yhz 16 4 x
def grp(t:Bool):List (List UInt8)→Option (List Nat)
 |[]=>some []
 |x::r=>match (if t&&r.isEmpty then p4 x else none)with
  |some n=>some [n/65536,n%65536]
  |none=>match g16 x with
   |none=>none
   |some v=>(grp t r).map (v:: ·)
def yiz(t:Bool)(l:List UInt8):Option (List Nat):=if l.isEmpty then some []else grp t (spl 58 l)
def x0z(a b:List Nat):List Nat:=a++List.replicate (8-a.length-b.length) 0++b
def yAz(l:List UInt8):Option (List Nat):=match z6z l with
 |none=>match yiz true l with
  |none=>none
  |some g=>if g.length=8 then some g else none
 |some (a,b)=>match yiz false a,yiz true b with
  |some x,some y=>if x.length+y.length≤7 then some (x0z x y)else none
  |_,_=>none
def zbjz(l:List UInt8):Option (List Nat):=match z6z l with
 |none=>match yiz false l with
  |none=>none
  |some g=>if g.length=8 then some g else none
 |some (a,b)=>match yiz false a,yiz false b with
  |some x,some y=>if x.length+y.length≤7 then some (x0z x y)else none
  |_,_=>none
def jJz(n:Nat):List UInt8:=jl 58 [zBz (n/65536),zBz (n%65536)]
def zi8z(y:List UInt8):Option (List Nat):=match p4 y with
 |some n=>some [n/65536,n%65536]
 |none=>(g16 y).map fun v=>[v]
theorem x5z(x:List UInt8)(r:List (List UInt8)):grp false (x::r)=match g16 x with
  |none=>none
  |some v=>(grp false r).map (v:: ·):=by
 rw[grp];rfl
theorem zhZz: ∀xs ys,grp false (xs++ys)=(grp false xs).bind fun g=>(grp false ys).map (g++ ·)
 |[],ys=>by
  rw[List.nil_append,grp]
  cases grp false ys<;>rfl
 |x::r,ys=>by
  rw[List.cons_append,x5z,x5z,zhZz r ys]
  cases g16 x<;>cases grp false r<;>cases grp false ys<;>rfl
theorem zfcz: ∀xs y,grp true (xs++[y])=(grp false xs).bind fun g=>(zi8z y).map (g++ ·)
 |[],y=>by
  rw[List.nil_append,grp]
  simp only[List.isEmpty_nil,Bool.and_self,if_true,grp,zi8z,Option.bind_some]
  cases p4 y<;>cases g16 y<;>rfl
 |x::r,y=>by
  rw[List.cons_append,grp,x5z,zfcz r y]
  simp only[show (r++[y]).isEmpty=false by cases r<;>rfl,Bool.and_false,Bool.false_eq_true,if_false]
  cases g16 x<;>cases grp false r<;>cases zi8z y<;>rfl
def zbkz(b:List UInt8):Prop:=b=[]∨ ∃q,b=q++[58]
theorem zi9z{b:List UInt8}(h:zbkz b): ∃xs,∀x,spl 58 (b++x)=xs++spl 58 x:=by
 rcases h with rfl|⟨q,rfl⟩
 ·exact ⟨[],fun x=>rfl⟩
 exact ⟨spl 58 q,fun x=>by rw[List.append_assoc,List.cons_append,List.nil_append,zeDz]⟩
theorem zoGz{n:Nat}(h:n<4294967296):spl 58 (jJz n)=[zBz (n/65536),zBz (n%65536)]:=by
 refine zdKz 58 (by simp) ?_
 intro x hx
 simp only[List.mem_cons,List.not_mem_nil,or_false]at hx
 rcases hx with rfl|rfl
 ·exact fun c hc=>(zbKz (by omega) c hc).1
 exact fun c hc=>(zbKz (by omega) c hc).1
theorem zh0z{n:Nat}(h:n<65536):g16 (zBz n)=some n:=by
 unfold g16
 rw[zhXz,zoFz h]
 rfl
theorem zrcz{n:Nat}(h:n<4294967296):grp false [zBz (n/65536),zBz (n%65536)]=some [n/65536,n%65536]:=by
 rw[x5z,zh0z (by omega),x5z,zh0z (by omega),grp]
 rfl
theorem zszz:p4 []=none:=by rfl
theorem zgMz{b tl:List UInt8}{n:Nat}(hb:zbkz b)(h58: ∀c∈tl,c≠58)(h:p4 tl=some n):yiz true (b++tl)=yiz false (b++jJz n):=by
 obtain ⟨xs,hs⟩:=zi9z hb
 have hn:=(jXz h).1
 have h1:(b++tl).isEmpty=false:=by
  cases tl with
  |nil=>rw[zszz]at h;cases h
  |cons c r=>cases b<;>rfl
 have h2:(b++jJz n).isEmpty=false:=by
  have h3:=(vYz (n/65536)).1
  cases b with
  |cons c r=>rfl
  |nil=>
   unfold jJz
   cases h4:zBz (n/65536)with
   |nil=>rw[h4]at h3;simp at h3
   |cons c r=>rfl
 unfold yiz
 rw[h1,h2,hs tl,hs (jJz n),vVz 58 h58,zoGz hn,zfcz,zhZz,zrcz hn]
 simp only[zi8z,h]
theorem zfdz{b tl:List UInt8}(hb:zbkz b)(h58: ∀c∈tl,c≠58)(h:p4 tl=none):yiz true (b++tl)=yiz false (b++tl):=by
 obtain ⟨xs,hs⟩:=zi9z hb
 unfold yiz
 rw[hs tl,vVz 58 h58,zfcz,zhZz,x5z]
 simp only[zi8z,h,grp]
 cases g16 tl<;>rfl
theorem zjaz{p a b:List UInt8}(hp:zbkz p)(h:z6z p=some (a,b)):zbkz b:=by
 have e:=zcoz h
 rcases hp with rfl|⟨q,rfl⟩
 ·cases h
 by_cases hb:b=[]
 ·exact .inl hb
 obtain ⟨b',c,rfl⟩: ∃b' c,b=b'++[c]:=⟨b.dropLast,b.getLast hb,(List.dropLast_concat_getLast hb).symm⟩
 have e2:q++[58]=(a++58::58::b')++[c]:=by simp[e]
 have:=(List.append_inj' e2 rfl).2
 cases this
 exact .inr ⟨b',rfl⟩
theorem zoHz{n:Nat}(h:n<4294967296):z6z (jJz n)=none∧(jJz n).head? ≠some 58:=by
 have hp: ∀x∈[zBz (n/65536),zBz (n%65536)],zfbz x:=by
  intro x hx
  simp only[List.mem_cons,List.not_mem_nil,or_false]at hx
  rcases hx with rfl|rfl
  ·exact ⟨zfaz _,fun c hc=>(zbKz (by omega) c hc).1⟩
  exact ⟨zfaz _,fun c hc=>(zbKz (by omega) c hc).1⟩
 exact ⟨zk4z hp,zhYz (hp _ (by simp))⟩
theorem zgNz{l:List UInt8}(h: ∀c∈l,c≠58):l.head? ≠some 58:=by
 cases l with
 |nil=>simp
 |cons c r=>simpa using h c List.mem_cons_self
theorem znbz{p tl:List UInt8}{n:Nat}(hp:zbkz p)(h58: ∀c∈tl,c≠58)(h:p4 tl=some n):zbjz (p++jJz n)=yAz (p++tl):=by
 obtain ⟨t1,t2⟩:=zoHz (jXz h).1
 unfold yAz zbjz
 rw[zcUz (zeGz h58) (zgNz h58),zcUz t1 t2]
 cases hc:z6z p with
 |none=>
  simp only[Option.map_none]
  rw[zgMz hp h58 h]
 |some ab=>
  obtain ⟨a,b⟩:=ab
  simp only[Option.map_some]
  rw[zgMz (zjaz hp hc) h58 h]
theorem zk5z{p tl:List UInt8}(hp:zbkz p)(h58: ∀c∈tl,c≠58)(h:p4 tl=none):zbjz (p++tl)=yAz (p++tl):=by
 unfold yAz zbjz
 rw[zcUz (zeGz h58) (zgNz h58)]
 cases hc:z6z p with
 |none=>
  simp only[Option.map_none]
  rw[zfdz hp h58 h]
 |some ab=>
  obtain ⟨a,b⟩:=ab
  simp only[Option.map_some]
  rw[zfdz (zjaz hp hc) h58 h]
def gtL(gs:List Nat):List UInt8:=jl 58 (gs.map zBz)
theorem zfez{gs:List Nat}(h: ∀g∈gs,g<65536): ∀x∈gs.map zBz,zfbz x:=by
 intro x hx
 obtain ⟨g,hg,rfl⟩:=List.mem_map.1 hx
 exact ⟨zfaz _,fun c hc=>(zbKz (h g hg) c hc).1⟩
theorem zoIz(t:Bool): ∀{gs:List Nat},(∀g∈gs,g<65536)→grp t (gs.map zBz)=some gs
 |[],_=>by cases t<;>rfl
 |g::r,h=>by
  have hg:=h g List.mem_cons_self
  have h4:p4 (zBz g)=none:=by
   unfold p4
   rw[vVz 46 (fun c hc=>(zbKz hg c hc).2),if_neg (by simp)]
  rw[List.map_cons,grp,h4,zoIz t (fun x hx=>h x (List.mem_cons_of_mem _ hx)),zh0z hg]
  simp
theorem zsAz{gs:List Nat}:(gtL gs).isEmpty=gs.isEmpty:=by
 match gs with
 |[]=>rfl
 |[g]=>simpa[gtL,jl] using zhXz g
 |g::h::r=>
  unfold gtL
  rw[List.map_cons,List.map_cons,jl]
  cases zBz g<;>rfl
theorem zh1z(t:Bool){gs:List Nat}(h: ∀g∈gs,g<65536):yiz t (gtL gs)=some gs:=by
 unfold yiz
 rw[zsAz]
 cases gs with
 |nil=>rfl
 |cons g r=>
  simp only[List.isEmpty_cons,Bool.false_eq_true,if_false]
  unfold gtL
  rw[zdKz 58 (by simp) (fun x hx=>(zfez h x hx).2),zoIz t h]
def ip6T(w:List Nat)(f e:Nat):List UInt8:=if e-f<2 then gtL w else gtL (w.take f)++58::58::gtL (w.drop e)
theorem zmhz{w:List Nat}(hl:w.length=8)(h: ∀g∈w,g<65536):yAz (gtL w)=some w:=by
 unfold yAz
 rw[show z6z (gtL w)=none from zk4z (zfez h)]
 simp only
 rw[zh1z true h]
 simp only[hl,if_true]
theorem zncz{w:List Nat}{f e:Nat}(hl:w.length=8)(h: ∀g∈w,g<65536)(he:e≤8)(hz: ∀i,f≤i→i<e→w.getD i 0=0):yAz (ip6T w f e)=some w:=by
 unfold ip6T
 split
 ·exact zmhz hl h
 have h1: ∀g∈w.take f,g<65536:=fun g hg=>h g (List.mem_of_mem_take hg)
 have h2: ∀g∈w.drop e,g<65536:=fun g hg=>h g (List.mem_of_mem_drop hg)
 unfold yAz
 rw[show z6z (gtL (w.take f)++58::58::gtL (w.drop e))=some (gtL (w.take f),gtL (w.drop e)) from zi7z _ (zfez h1)]
 simp only
 rw[zh1z false h1,zh1z true h2]
 simp only[List.length_take,List.length_drop]
 rw[if_pos (by omega)]
 congr 1
 unfold x0z
 apply List.ext_getElem
 ·simp;omega
 intro i i1 i2
 simp only[List.length_append,List.length_take,List.length_replicate,List.length_drop]at i1
 by_cases c1:i<f
 ·rw[List.getElem_append_left (by simp;omega),List.getElem_append_left (by simp;omega),List.getElem_take]
 by_cases c2:i<e
 ·rw[List.getElem_append_left (by simp;omega),List.getElem_append_right (by simp;omega),List.getElem_replicate]
  have:=hz i (by omega) c2
  rw[List.getD_eq_getElem?_getD,List.getElem?_eq_getElem (by omega)]at this
  exact this.symm
 rw[List.getElem_append_right (by simp;omega),List.getElem_drop]
 congr 1
 simp
 omega
theorem zafz: ∀gs:List Nat,(gtL gs).length≤5*gs.length-1∧gs.length≤(gtL gs).length
 |[]=>by simp[gtL,jl]
 |[g]=>by have:=vYz g;simp[gtL,jl];omega
 |g::h::r=>by
  have ih:=zafz (h::r)
  have hg:=vYz g
  unfold gtL at ih⊢
  rw[List.map_cons,List.map_cons,jl,List.length_append,List.length_cons]
  rw[List.map_cons]at ih
  simp only[List.length_cons]at ih⊢
  omega
theorem zmiz{w:List Nat}{f e:Nat}(hl:w.length=8)(he:e≤8):2≤(ip6T w f e).length∧(ip6T w f e).length≤39:=by
 unfold ip6T
 have g1:=zafz w
 have g2:=zafz (w.take f)
 have g3:=zafz (w.drop e)
 split
 ·omega
 simp only[List.length_append,List.length_cons,List.length_take,List.length_drop]at g2 g3⊢
 omega
def vfz:Nat→Nat×Nat×Nat→List Bool→Nat×Nat×Nat
 |_,s,[]=>s
 |i,(f,t,b),z::r=>vfz (i+1) (if z then (if t-f<i+1-b then (b,i+1,b)else (f,t,b))else (f,t,i+1)) r
def runZ:List Bool→Nat
 |true::r=>runZ r+1
 |_=>0
def xAz:Nat→Nat×Nat→List Bool→Nat×Nat
 |_,s,[]=>s
 |a,(f,t),z::r=>xAz (a+1) (if 1<runZ (z::r)∧t-f<runZ (z::r)then (a,a+runZ (z::r))else (f,t)) r
def zcpz(z:List Bool):Bool:=
 let p:=vfz 0 (0,0,0) z
 let q:=xAz 0 (8,8) z
 decide (p.1≤p.2.1)&&decide (p.2.1≤8)&&(if p.2.1-p.1<2 then decide (q=(8,8))else decide (q=(p.1,p.2.1))&&(List.range 8).all fun i=> !(decide (p.1≤i)&&decide (i<p.2.1))||z.getD i false)
theorem zrdz: ∀a b c d e f g h:Bool,zcpz [a,b,c,d,e,f,g,h]=true:=by decide+kernel
end Go.Proofs.YtgcbaphbiaimoaaGreatDoor
namespace Go.Proofs.YtgcbaphbiaimoaaGreatDoor
open Go.RowKit
set_option linter.unusedSimpArgs false
def zHz(w:World):Prop:=w.cell? ⟨11,15,none⟩=some (.int .u8 4)
theorem zcXz(w:World):Calls Tryz.prog 235 #[.int .i64 16] w fun e w'=>e=.returned (.bool true)∧w=w':=by
 go_enter Tryz.func235,Tryz.ntmps235
 go_wp2
 go_ret
 exact ⟨rfl,rfl⟩
theorem zoJz(w:World)(h:zHz w):Calls Tryz.prog 260 #[.int .u64 16] w fun e w'=>e=.returned (.int .i64 4)∧w=w':=by
 unfold zHz at h
 have e1:bits .and .u64 16 (IntKind.u64.wrap (-16))=16:=by kernel_rfl
 have e2:IntKind.u64.wrap (16*285870213051353865)=4573923408821661840:=by kernel_rfl
 have e3:IntKind.u64.wrap 4573923408821661840=4573923408821661840:=by kernel_rfl
 have e4:(4573923408821661840:Int)/288230376151711744=15:=by decide
 go_enter Tryz.func260,Tryz.ntmps260
 go_wp2
 go_ret
 exact ⟨rfl,rfl⟩
theorem zh2z(w:World)(h:zHz w):Calls Tryz.prog 236 #[.int .u64 16] w fun e w'=>e=.returned (.int .i64 4)∧w=w':=by
 have H:Hid (zHz w):=h
 clear h
 go_enter Tryz.func236,Tryz.ntmps236
 go_wp2_with fail
 refine (zoJz _ H.out).mono ?_
 rintro e w' ⟨rfl,rfl⟩
 go_wp2_with fail
 go_ret
 exact ⟨rfl,rfl⟩
theorem zuz{w w':World}(h:zHz w)(hb:Below w.heap.size w w'):zHz w':=cell_later hb h
theorem dig36: ∀k,k<16→((#[48,49,50,51,52,53,54,55,56,57,97,98,99,100,101,102,103,104,105,106,107,108,109,110,111,112,113,114,115,116,117,118,119,120,121,122]:Array UInt8).getD k 0)=hxU k:=by decide+kernel
theorem x1z(k:Nat)(h:k<16)(hp:k<(⟨#[48,49,50,51,52,53,54,55,56,57,97,98,99,100,101,102,103,104,105,106,107,108,109,110,111,112,113,114,115,116,117,118,119,120,121,122]⟩:ByteArray).size):
  (⟨#[48,49,50,51,52,53,54,55,56,57,97,98,99,100,101,102,103,104,105,106,107,108,109,110,111,112,113,114,115,116,117,118,119,120,121,122]⟩:ByteArray)[k]'hp=hxU k:=by
 rw[←dig36 k h]
 rw[Array.getD_eq_getD_getElem?,Array.getElem?_eq_getElem hp]
 rfl
theorem zh3z:Tryz.zeroCells221.size=65:=by kernel_rfl
theorem zffz(n:Int)(h0:0≤n)(h1:n<18446744073709551616):IntKind.u64.wrap n=n:=by
 simp[IntKind.wrap,IntKind.bits,IntKind.signed];omega
theorem jxz(x:Int)(h0:0≤x)(h1:x<18446744073709551616):bits .and .u64 x 15=x%16:=by
 obtain ⟨a,rfl⟩:=Int.eq_ofNat_of_zero_le h0
 have ha:(BitVec.ofInt 64 (a:Int)).toNat=a:=by
  rw[BitVec.ofInt_natCast,BitVec.toNat_ofNat];exact Nat.mod_eq_of_lt (by omega)
 have hb:(BitVec.ofInt 64 (15:Int)).toNat=15:=by decide
 show IntKind.u64.wrap ((BitVec.ofInt 64 (a:Int)&&&BitVec.ofInt 64 (15:Int)).toNat:Int)=_
 rw[BitVec.toNat_and,ha,hb,show (15:Nat)=2^4-1 from rfl,Nat.and_two_pow_sub_one_eq_mod,zffz _ (by omega) (by omega)]
 omega
theorem zeHz{w:World}{cs:Array Value}{T:TypeId}{o:Nat}{l:List UInt8}(h: ∀j (hj:j<l.length),cs[o+j]? =some (.int .u8 (l[j].toNat:Int))):
  ∀(j:Nat) (x:Value),(zcz l)[j]? =some x→(w.alloc (.cells cs T)).cell? ((⟨w.heap.size,o,none⟩:Addr).add j)=some x:=by
 intro j x hj
 rw[Addr.add_lit,World.cell?_alloc_at _ _ _ _ rfl]
 unfold zcz at hj
 rw[List.getElem?_map]at hj
 obtain ⟨c,hc,rfl⟩:=Option.map_eq_some_iff.1 hj
 obtain ⟨hl,rfl⟩:=List.getElem?_eq_some_iff.1 hc
 exact h j hl
theorem zjbz(u:Int)(B:Nat)(v:Value)(l:List UInt8)(w:World)(h0:0≤u)(h1:u<16)(hT:zHz w)(hown:w.ownsRow B 5 1 v l.length (zcz l))(hB:B≤w.heap.size)(hl:l.length≤1000):
  Calls Tryz.prog 199 #[v,.int .u64 u,.int .i64 16,.bool false,.bool true] w fun e w'=> ∃v',e=.returned (.tuple #[v',.string ⟨#[]⟩])∧w'.ownsRow B 5 1 v' (l++zBz u.toNat).length (zcz (l++zBz u.toNat))∧Below B w w':=by
 have HH:Hid (zBz u.toNat=[hxU u.toNat]):=by show _=_;unfold zBz;rw[if_pos (by omega)]
 obtain ⟨i0,hi,hz0,hz1,hz2⟩:=info_parts Tryz.info5
 have HT:Hid (zHz w):=hT
 clear hT
 have HO:Hid (w.ownsRow B 5 1 v l.length (zcz l)):=hown
 clear hown
 go_enter Tryz.func199,Tryz.ntmps199
 go_wp2_with fail
 refine (zcXz _).mono ?_
 rintro e w' ⟨rfl,rfl⟩
 go_wp2_with fail
 refine (zh2z _ (zuz HT.out ((Below.refl _ _).alloc (Nat.le_refl _) _))).mono ?_
 rintro e w' ⟨rfl,rfl⟩
 go_wp2_with fail
 refine wp_loop_rounds 1 ?_
 rw[rounds_succ]
 go_wp2_with (at_builtin;refine wpList_append_own _ rfl _ _ 22 rfl B 5 i0 (.int .u8 0) 1 1 Tryz.underlying22 hi hz0 hz1 hz2 rfl (by decide) _ _ _ rfl (HO.out.alloc _) ⟨w.heap.size,64,none⟩ 1 1 (zcz (zBz u.toNat)) rfl (by rw[xWz,HH.out];rfl) (zeHz ?_) (vcz _) (by unfold maxLen;omega) (by omega) (by simp;omega) ?_)
 ·rw[HH.out]
  intro j hj
  obtain rfl:j=0:=by simpa using hj
  rw[Array.getElem?_setIfInBounds_self_of_lt (by rw[zh3z];decide),x1z _ (by omega)]
  rfl
 intro v' w1 h2 h3 _
 have B1:Below B w w1:=((Below.refl B w).alloc hB _).grown h3 (by simp;omega) (fun k hk=>(HO.out.lt k hk).1)
 have R:w1.ownsRow B 5 1 v' (l++zBz u.toNat).length (zcz (l++zBz u.toNat)):=by
  rw[xdz,List.length_append,show (zBz u.toNat).length=1 by rw[HH.out];rfl]
  exact h2
 clear h2 h3
 go_wp2_with fail
 go_ret2
 exact ⟨_,rfl,R,B1⟩
theorem zjcz(u:Int)(B:Nat)(v:Value)(l:List UInt8)(w:World)(h0:16≤u)(h1:u<256)(hT:zHz w)(hown:w.ownsRow B 5 1 v l.length (zcz l))(hB:B≤w.heap.size)(hl:l.length≤1000):
  Calls Tryz.prog 199 #[v,.int .u64 u,.int .i64 16,.bool false,.bool true] w fun e w'=> ∃v',e=.returned (.tuple #[v',.string ⟨#[]⟩])∧w'.ownsRow B 5 1 v' (l++zBz u.toNat).length (zcz (l++zBz u.toNat))∧Below B w w':=by
 obtain ⟨q1,hq1⟩: ∃q1:Int,u/16=q1:=⟨_,rfl⟩
 obtain ⟨r0,hr0⟩: ∃r0:Int,u%16=r0:=⟨_,rfl⟩
 have HH:Hid (zBz u.toNat=[hxU q1.toNat,hxU r0.toNat]):=by
  show _=_
  unfold zBz
  rw[if_neg (by omega),if_pos (by omega),show u.toNat/16=q1.toNat by omega,show u.toNat%16=r0.toNat by omega]
 have c1:0≤q1:=by omega
 have c2:q1<16:=by omega
 have c3:0≤r0:=by omega
 have c4:r0<16:=by omega
 have b0:bits .and .u64 u 15=r0:=by rw[jxz _ (by omega) (by omega),hr0]
 clear hr0
 obtain ⟨i0,hi,hz0,hz1,hz2⟩:=info_parts Tryz.info5
 have HT:Hid (zHz w):=hT
 clear hT
 have HO:Hid (w.ownsRow B 5 1 v l.length (zcz l)):=hown
 clear hown
 go_enter Tryz.func199,Tryz.ntmps199
 go_wp2_with fail
 refine (zcXz _).mono ?_
 rintro e w' ⟨rfl,rfl⟩
 go_wp2_with fail
 refine (zh2z _ (zuz HT.out ((Below.refl _ _).alloc (Nat.le_refl _) _))).mono ?_
 rintro e w' ⟨rfl,rfl⟩
 go_wp2_with fail
 refine wp_loop_rounds 2 ?_
 rw[rounds_succ]
 go_wp2_with fail
 rw[rounds_succ]
 go_wp2_with (at_builtin;refine wpList_append_own _ rfl _ _ 22 rfl B 5 i0 (.int .u8 0) 1 1 Tryz.underlying22 hi hz0 hz1 hz2 rfl (by decide) _ _ _ rfl (HO.out.alloc _) ⟨w.heap.size,63,none⟩ 2 2 (zcz (zBz u.toNat)) rfl (by rw[xWz,HH.out];rfl) (zeHz ?_) (vcz _) (by unfold maxLen;omega) (by omega) (by simp;omega) ?_)
 ·rw[HH.out,x1z r0.toNat (by omega),x1z q1.toNat (by omega)]
  intro j hj
  have h3:j=0∨j=1:=by simp at hj;omega
  rcases h3 with rfl|rfl<;>simp[Array.getElem?_setIfInBounds,zh3z]
 intro v' w1 h2 h3 _
 have B1:Below B w w1:=((Below.refl B w).alloc hB _).grown h3 (by simp;omega) (fun k hk=>(HO.out.lt k hk).1)
 have R:w1.ownsRow B 5 1 v' (l++zBz u.toNat).length (zcz (l++zBz u.toNat)):=by
  rw[xdz,List.length_append,show (zBz u.toNat).length=2 by rw[HH.out];rfl]
  exact h2
 clear h2 h3
 go_wp2_with fail
 go_ret2
 exact ⟨_,rfl,R,B1⟩
theorem zjdz(u:Int)(B:Nat)(v:Value)(l:List UInt8)(w:World)(h0:256≤u)(h1:u<4096)(hT:zHz w)(hown:w.ownsRow B 5 1 v l.length (zcz l))(hB:B≤w.heap.size)(hl:l.length≤1000):
  Calls Tryz.prog 199 #[v,.int .u64 u,.int .i64 16,.bool false,.bool true] w fun e w'=> ∃v',e=.returned (.tuple #[v',.string ⟨#[]⟩])∧w'.ownsRow B 5 1 v' (l++zBz u.toNat).length (zcz (l++zBz u.toNat))∧Below B w w':=by
 obtain ⟨q1,hq1⟩: ∃q1:Int,u/16=q1:=⟨_,rfl⟩
 obtain ⟨r0,hr0⟩: ∃r0:Int,u%16=r0:=⟨_,rfl⟩
 obtain ⟨q2,hq2⟩: ∃q2:Int,q1/16=q2:=⟨_,rfl⟩
 obtain ⟨r1,hr1⟩: ∃r1:Int,q1%16=r1:=⟨_,rfl⟩
 have HH:Hid (zBz u.toNat=[hxU q2.toNat,hxU r1.toNat,hxU r0.toNat]):=by
  show _=_
  unfold zBz
  rw[if_neg (by omega),if_neg (by omega),if_pos (by omega),show u.toNat/256=q2.toNat by omega,show u.toNat/16%16=r1.toNat by omega,show u.toNat%16=r0.toNat by omega]
 have c1:16≤q1:=by omega
 have c2:q1<256:=by omega
 have c3:0≤r0:=by omega
 have c4:r0<16:=by omega
 have c5:0≤q2:=by omega
 have c6:q2<16:=by omega
 have c7:0≤r1:=by omega
 have c8:r1<16:=by omega
 have b0:bits .and .u64 u 15=r0:=by rw[jxz _ (by omega) (by omega),hr0]
 have b1:bits .and .u64 q1 15=r1:=by rw[jxz _ (by omega) (by omega),hr1]
 clear hr0 hr1
 obtain ⟨i0,hi,hz0,hz1,hz2⟩:=info_parts Tryz.info5
 have HT:Hid (zHz w):=hT
 clear hT
 have HO:Hid (w.ownsRow B 5 1 v l.length (zcz l)):=hown
 clear hown
 go_enter Tryz.func199,Tryz.ntmps199
 go_wp2_with fail
 refine (zcXz _).mono ?_
 rintro e w' ⟨rfl,rfl⟩
 go_wp2_with fail
 refine (zh2z _ (zuz HT.out ((Below.refl _ _).alloc (Nat.le_refl _) _))).mono ?_
 rintro e w' ⟨rfl,rfl⟩
 go_wp2_with fail
 refine wp_loop_rounds 3 ?_
 rw[rounds_succ]
 go_wp2_with fail
 rw[rounds_succ]
 go_wp2_with fail
 rw[rounds_succ]
 go_wp2_with (at_builtin;refine wpList_append_own _ rfl _ _ 22 rfl B 5 i0 (.int .u8 0) 1 1 Tryz.underlying22 hi hz0 hz1 hz2 rfl (by decide) _ _ _ rfl (HO.out.alloc _) ⟨w.heap.size,62,none⟩ 3 3 (zcz (zBz u.toNat)) rfl (by rw[xWz,HH.out];rfl) (zeHz ?_) (vcz _) (by unfold maxLen;omega) (by omega) (by simp;omega) ?_)
 ·rw[HH.out,x1z r0.toNat (by omega),x1z r1.toNat (by omega),x1z q2.toNat (by omega)]
  intro j hj
  have h3:j=0∨j=1∨j=2:=by simp at hj;omega
  rcases h3 with rfl|rfl|rfl<;>simp[Array.getElem?_setIfInBounds,zh3z]
 intro v' w1 h2 h3 _
 have B1:Below B w w1:=((Below.refl B w).alloc hB _).grown h3 (by simp;omega) (fun k hk=>(HO.out.lt k hk).1)
 have R:w1.ownsRow B 5 1 v' (l++zBz u.toNat).length (zcz (l++zBz u.toNat)):=by
  rw[xdz,List.length_append,show (zBz u.toNat).length=3 by rw[HH.out];rfl]
  exact h2
 clear h2 h3
 go_wp2_with fail
 go_ret2
 exact ⟨_,rfl,R,B1⟩
theorem zjez(u:Int)(B:Nat)(v:Value)(l:List UInt8)(w:World)(h0:4096≤u)(h1:u<65536)(hT:zHz w)(hown:w.ownsRow B 5 1 v l.length (zcz l))(hB:B≤w.heap.size)(hl:l.length≤1000):
  Calls Tryz.prog 199 #[v,.int .u64 u,.int .i64 16,.bool false,.bool true] w fun e w'=> ∃v',e=.returned (.tuple #[v',.string ⟨#[]⟩])∧w'.ownsRow B 5 1 v' (l++zBz u.toNat).length (zcz (l++zBz u.toNat))∧Below B w w':=by
 obtain ⟨q1,hq1⟩: ∃q1:Int,u/16=q1:=⟨_,rfl⟩
 obtain ⟨r0,hr0⟩: ∃r0:Int,u%16=r0:=⟨_,rfl⟩
 obtain ⟨q2,hq2⟩: ∃q2:Int,q1/16=q2:=⟨_,rfl⟩
 obtain ⟨r1,hr1⟩: ∃r1:Int,q1%16=r1:=⟨_,rfl⟩
 obtain ⟨q3,hq3⟩: ∃q3:Int,q2/16=q3:=⟨_,rfl⟩
 obtain ⟨r2,hr2⟩: ∃r2:Int,q2%16=r2:=⟨_,rfl⟩
 have HH:Hid (zBz u.toNat=[hxU q3.toNat,hxU r2.toNat,hxU r1.toNat,hxU r0.toNat]):=by
  show _=_
  unfold zBz
  rw[if_neg (by omega),if_neg (by omega),if_neg (by omega),show u.toNat/4096=q3.toNat by omega,show u.toNat/256%16=r2.toNat by omega,show u.toNat/16%16=r1.toNat by omega,show u.toNat%16=r0.toNat by omega]
 have c1:256≤q1:=by omega
 have c2:q1<4096:=by omega
 have c3:0≤r0:=by omega
 have c4:r0<16:=by omega
 have c5:16≤q2:=by omega
 have c6:q2<256:=by omega
 have c7:0≤r1:=by omega
 have c8:r1<16:=by omega
 have d5:0≤q3:=by omega
 have d6:q3<16:=by omega
 have d7:0≤r2:=by omega
 have d8:r2<16:=by omega
 have b0:bits .and .u64 u 15=r0:=by rw[jxz _ (by omega) (by omega),hr0]
 have b1:bits .and .u64 q1 15=r1:=by rw[jxz _ (by omega) (by omega),hr1]
 have b2:bits .and .u64 q2 15=r2:=by rw[jxz _ (by omega) (by omega),hr2]
 clear hr0 hr1 hr2
 obtain ⟨i0,hi,hz0,hz1,hz2⟩:=info_parts Tryz.info5
 have HT:Hid (zHz w):=hT
 clear hT
 have HO:Hid (w.ownsRow B 5 1 v l.length (zcz l)):=hown
 clear hown
 go_enter Tryz.func199,Tryz.ntmps199
 go_wp2_with fail
 refine (zcXz _).mono ?_
 rintro e w' ⟨rfl,rfl⟩
 go_wp2_with fail
 refine (zh2z _ (zuz HT.out ((Below.refl _ _).alloc (Nat.le_refl _) _))).mono ?_
 rintro e w' ⟨rfl,rfl⟩
 go_wp2_with fail
 refine wp_loop_rounds 4 ?_
 rw[rounds_succ]
 go_wp2_with fail
 rw[rounds_succ]
 go_wp2_with fail
 rw[rounds_succ]
 go_wp2_with fail
 rw[rounds_succ]
 go_wp2_with (at_builtin;refine wpList_append_own _ rfl _ _ 22 rfl B 5 i0 (.int .u8 0) 1 1 Tryz.underlying22 hi hz0 hz1 hz2 rfl (by decide) _ _ _ rfl (HO.out.alloc _) ⟨w.heap.size,61,none⟩ 4 4 (zcz (zBz u.toNat)) rfl (by rw[xWz,HH.out];rfl) (zeHz ?_) (vcz _) (by unfold maxLen;omega) (by omega) (by simp;omega) ?_)
 ·rw[HH.out,x1z r0.toNat (by omega),x1z r1.toNat (by omega),x1z r2.toNat (by omega),x1z q3.toNat (by omega)]
  intro j hj
  have h3:j=0∨j=1∨j=2∨j=3:=by simp at hj;omega
  rcases h3 with rfl|rfl|rfl|rfl<;>simp[Array.getElem?_setIfInBounds,zh3z]
 intro v' w1 h2 h3 _
 have B1:Below B w w1:=((Below.refl B w).alloc hB _).grown h3 (by simp;omega) (fun k hk=>(HO.out.lt k hk).1)
 have R:w1.ownsRow B 5 1 v' (l++zBz u.toNat).length (zcz (l++zBz u.toNat)):=by
  rw[xdz,List.length_append,show (zBz u.toNat).length=4 by rw[HH.out];rfl]
  exact h2
 clear h2 h3
 go_wp2_with fail
 go_ret2
 exact ⟨_,rfl,R,B1⟩
theorem zk6z(u:Int)(B:Nat)(v:Value)(l:List UInt8)(w:World)(h0:0≤u)(h1:u<65536)(hT:zHz w)(hown:w.ownsRow B 5 1 v l.length (zcz l))(hB:B≤w.heap.size)(hl:l.length≤1000):
  Calls Tryz.prog 199 #[v,.int .u64 u,.int .i64 16,.bool false,.bool true] w fun e w'=> ∃v',e=.returned (.tuple #[v',.string ⟨#[]⟩])∧w'.ownsRow B 5 1 v' (l++zBz u.toNat).length (zcz (l++zBz u.toNat))∧Below B w w':=by
 by_cases c1:u<16
 ·exact zjbz u B v l w h0 c1 hT hown hB hl
 by_cases c2:u<256
 ·exact zjcz u B v l w (by omega) c2 hT hown hB hl
 by_cases c3:u<4096
 ·exact zjdz u B v l w (by omega) c3 hT hown hB hl
 exact zjez u B v l w (by omega) h1 hT hown hB hl
theorem zk7z(u:Int)(B:Nat)(v:Value)(l:List UInt8)(w:World)(h0:0≤u)(h1:u<65536)(hT:zHz w)(hown:w.ownsRow B 5 1 v l.length (zcz l))(hB:B≤w.heap.size)(hl:l.length≤1000):
  Calls Tryz.prog 192 #[v,.int .i64 u,.int .i64 16] w fun e w'=> ∃v',e=.returned v'∧w'.ownsRow B 5 1 v' (l++zBz u.toNat).length (zcz (l++zBz u.toNat))∧Below B w w':=by
 have CF:Hid (∀W,W=w→Calls Tryz.prog 199 #[v,.int .u64 u,.int .i64 16,.bool false,.bool true] W fun e w'=> ∃v',e=.returned (.tuple #[v',.string ⟨#[]⟩])∧w'.ownsRow B 5 1 v' (l++zBz u.toNat).length (zcz (l++zBz u.toNat))∧Below B w w'):=fun W h=>by subst h;exact zk6z u B v l _ h0 h1 hT hown hB hl
 clear hT hown
 have CU:Calls Tryz.prog 258 #[v,.int .u64 u,.int .i64 16] w fun e w'=> ∃v',e=.returned v'∧w'.ownsRow B 5 1 v' (l++zBz u.toNat).length (zcz (l++zBz u.toNat))∧Below B w w':=by
  go_enter Tryz.func258,Tryz.ntmps258
  go_wp2_with fail
  refine (CF.out _ rfl).mono ?_
  rintro e w' ⟨v',rfl,h2,h3⟩
  go_wp2_with fail
  go_ret
  exact ⟨_,rfl,h2,h3⟩
 have CU:Hid (Calls Tryz.prog 258 #[v,.int .u64 u,.int .i64 16] w fun e w'=> ∃v',e=.returned v'∧w'.ownsRow B 5 1 v' (l++zBz u.toNat).length (zcz (l++zBz u.toNat))∧Below B w w'):=CU
 clear CF
 have CI:Calls Tryz.prog 231 #[v,.int .i64 u,.int .i64 16] w fun e w'=> ∃v',e=.returned v'∧w'.ownsRow B 5 1 v' (l++zBz u.toNat).length (zcz (l++zBz u.toNat))∧Below B w w':=by
  go_enter Tryz.func231,Tryz.ntmps231
  go_wp2_with fail
  refine CU.out.mono ?_
  rintro e w' ⟨v',rfl,h2,h3⟩
  go_wp2_with fail
  go_ret
  exact ⟨_,rfl,h2,h3⟩
 have CI:Hid (Calls Tryz.prog 231 #[v,.int .i64 u,.int .i64 16] w fun e w'=> ∃v',e=.returned v'∧w'.ownsRow B 5 1 v' (l++zBz u.toNat).length (zcz (l++zBz u.toNat))∧Below B w w'):=CI
 clear CU
 go_enter Tryz.func192,Tryz.ntmps192
 go_wp2_with fail
 refine CI.out.mono ?_
 rintro e w' ⟨v',rfl,h2,h3⟩
 go_wp2_with fail
 go_ret
 exact ⟨_,rfl,h2,h3⟩
end Go.Proofs.YtgcbaphbiaimoaaGreatDoor
namespace Go.Proofs.YtgcbaphbiaimoaaGreatDoor
open Go.ChangeShapes Go.WideShapes Go.ChangeAt Go.RowKit Go.Lib
def zoKz:List Int:=[0,1,56,2,57,49,28,3,61,58,42,50,38,29,17,4,62,47,59,36,45,43,51,22,53,39,33,30,24,18,12,5,63,55,48,27,60,41,37,16,46,35,44,21,52,32,23,11,54,26,40,15,34,20,31,10,25,14,19,9,13,8,7,6]
theorem zoLz:(Rows.laid_math_bits_deBruijn64tab:DataW Unit)=Lib.tabData .u8 zoKz:=by kernel_rfl
def zoMz(h:Array Obj):Array Obj:=zoqz (zraz h)
end Go.Proofs.YtgcbaphbiaimoaaGreatDoor
namespace Go.Proofs.YtgcbaphbiaimoaaGreatDoor
open Go.RowKit
theorem jnz(c:Nat)(w:World)(hc:(c:Int)≤255):
  Calls Tryz.prog 217 #[.int .u8 (c:Int)] w fun e w'=>e=.returned (.bool (yEz c))∧w=w':=by
 by_cases h1:97≤(c:Int)
 ·by_cases h2:(c:Int)≤122
  ·have HV:Hid (yEz c=true):=by show _=_;unfold yEz;simp;omega
   go_enter Tryz.func217,Tryz.ntmps217
   go_wp2
   go_ret
   exact ⟨zez (by rw[HV.out]<;>first|rfl|(simp<;>omega)),rfl⟩
  have HV:Hid (yEz c=false):=by show _=_;unfold yEz;simp;omega
  have h3:65≤(c:Int):=by omega
  have h4: ¬(c:Int)≤90:=by omega
  go_enter Tryz.func217,Tryz.ntmps217
  go_wp2
  go_ret
  exact ⟨zez (by rw[HV.out]<;>first|rfl|(simp<;>omega)),rfl⟩
 by_cases h3:65≤(c:Int)
 ·by_cases h4:(c:Int)≤90
  ·have HV:Hid (yEz c=true):=by show _=_;unfold yEz;simp;omega
   go_enter Tryz.func217,Tryz.ntmps217
   go_wp2
   go_ret
   exact ⟨zez (by rw[HV.out]<;>first|rfl|(simp<;>omega)),rfl⟩
  have HV:Hid (yEz c=false):=by show _=_;unfold yEz;simp;omega
  go_enter Tryz.func217,Tryz.ntmps217
  go_wp2
  go_ret
  exact ⟨zez (by rw[HV.out]<;>first|rfl|(simp<;>omega)),rfl⟩
 have HV:Hid (yEz c=false):=by show _=_;unfold yEz;simp;omega
 go_enter Tryz.func217,Tryz.ntmps217
 go_wp2
 go_ret
 exact ⟨zez (by rw[HV.out]<;>first|rfl|(simp<;>omega)),rfl⟩
def y7z(l:List UInt8)(c:Int):Bool:=l.any fun b=>decide ((b.toNat:Int)=c)
theorem zdNz(s:ByteArray)(c:Int)(w:World)(hs:s.size≤1048576):
  Calls Tryz.prog 55 #[.string s,.int .i64 c] w fun e w'=>e=.returned (.bool (y7z s.data.toList c))∧w=w':=by
 go_enter Tryz.func55,Tryz.ntmps55
 go_wp2
 go_loop[5] (fun i=> ∃k:Nat,k≤s.size∧i=.int .i64 k∧y7z (s.data.toList.take k) c=false) (fun i=>s.size-(intOf i).toNat)
 case atStart=>exact ⟨0,Nat.zero_le _,rfl,rfl⟩
 obtain ⟨k,hk,rfl,hno⟩:=hrel
 have HN:Hid (y7z (s.data.toList.take k) c=false):=hno
 clear hno
 by_cases hlt:k<s.size
 ·obtain ⟨d,hd⟩: ∃d:Nat,s[k].toNat=d:=⟨_,rfl⟩
  have hd1:(d:Int)≤255:=by have:=s[k].toNat_lt;omega
  by_cases he:(d:Int)=c
  ·have HV:Hid (y7z s.data.toList c=true):=by
    show _=_
    unfold y7z
    refine List.any_eq_true.2 ⟨s[k],?_,by rw[hd];exact decide_eq_true he⟩
    have:s[k]∈s.data:=Array.getElem_mem _
    simpa using this
   go_wp2
   go_ret
   exact ⟨zez (by rw[HV.out]),rfl⟩
  have HN2:Hid (y7z (s.data.toList.take (k+1)) c=false):=by
   show _=_
   have h:=HN.out
   unfold y7z at h⊢
   rw[y9z s k hlt,List.any_append,h]
   simp[hd,he]
  go_wp2
  go_round
  case rel=>exact ⟨k+1,by omega,by go_num,HN2.out⟩
  case measure=>simp[intOf];omega
 have HV:Hid (y7z s.data.toList c=false):=by
  show _=_
  have h:=HN.out
  rw[ynz s k (by omega)]at h
  exact h
 go_wp2
 go_ret
 exact ⟨zez (by rw[HV.out]),rfl⟩
def vMz(c:Int):Bool:=decide (97≤c∧c≤122)||decide (65≤c∧c≤90)
theorem zk8z(c:Int)(w:World):Calls Tryz.prog 125 #[.int .i64 c] w fun e w'=>e=.returned (.bool (vMz c))∧w=w':=by
 by_cases h1:97≤c∧c≤122
 ·have HV:Hid (vMz c=true):=by show _=_;unfold vMz;rw[decide_eq_true h1];rfl
  have H1:Hid (97≤c∧c≤122):=h1
  clear h1
  go_enter Tryz.func125,Tryz.ntmps125
  go_wp2_with fail
  refine (zgz _ _ _ _ H1.out.1 H1.out.2).mono ?_
  rintro e w' ⟨rfl,rfl⟩
  go_wp2
  go_ret
  exact ⟨zez (by rw[HV.out]),rfl⟩
 have HV:Hid (vMz c=decide (65≤c∧c≤90)):=by show _=_;unfold vMz;rw[decide_eq_false h1];rfl
 have H1:Hid (c<97∨122<c):=by show _∨_;omega
 clear h1
 go_enter Tryz.func125,Tryz.ntmps125
 go_wp2_with fail
 refine (zmz _ _ _ _ H1.out).mono ?_
 rintro e w' ⟨rfl,rfl⟩
 go_wp2_with fail
 refine (zi1z _ _ _ _).mono ?_
 rintro e w' ⟨rfl,rfl⟩
 generalize decide (65≤c∧c≤90)=b at HV
 go_wp2
 go_ret
 exact ⟨zez (by rw[HV.out]),rfl⟩
def xFz(w:World):Prop:= ∀c:Nat,c<128→w.cell? ⟨6,c,none⟩=some (.bool (vdz c))∧w.cell? ⟨9,c,none⟩=some (.bool (zalz c))
theorem xFz.later{w w':World}(h:xFz w)(hb:Below w.heap.size w w'):xFz w':=fun c hc=>
 ⟨(World.cell?_of_block (w:=w) (a:=⟨6,c,none⟩) (hb.block _ (World.block_lt_of_cell? w _ (h c hc).1))).trans (h c hc).1,
  (World.cell?_of_block (w:=w) (a:=⟨9,c,none⟩) (hb.block _ (World.block_lt_of_cell? w _ (h c hc).2))).trans (h c hc).2⟩
theorem zfgz(c:Nat):decide (48≤(c:Int)∧(c:Int)≤57)=jbz c:=by
 unfold jbz
 exact decide_eq_decide.2 (by omega)
theorem zblz(c:Nat)(w:World)(hM:xFz w)(hc:(c:Int)≤255):
  Calls Tryz.prog 158 #[.int .u8 (c:Int)] w fun e w'=>e=.returned (.bool (yPz c))∧w=w':=by
 have hc0:0≤(c:Int):=by omega
 cases hl:yEz c with
 |true=>
  have HL:Hid (yEz c=true):=hl
  have HV:Hid (yPz c=true):=by show _=_;unfold yPz;rw[hl];rfl
  clear hl hM
  go_enter Tryz.func158,Tryz.ntmps158
  go_wp2_with fail
  refine (jnz c _ hc).mono ?_
  rintro e w' ⟨rfl,rfl⟩
  rw[HL.out]
  go_wp2
  go_ret
  exact ⟨zez (by rw[HV.out]),rfl⟩
 |false=>
  have HL:Hid (yEz c=false):=hl
  cases hg:jbz c with
  |true=>
   have HG:Hid (jbz c=true):=hg
   have HV:Hid (yPz c=true):=by show _=_;unfold yPz;rw[hl,hg];rfl
   clear hl hg hM
   go_enter Tryz.func158,Tryz.ntmps158
   go_wp2_with fail
   refine (jnz c _ hc).mono ?_
   rintro e w' ⟨rfl,rfl⟩
   rw[HL.out]
   go_wp2_with fail
   refine (xaz c _ (by omega)).mono ?_
   rintro e w' ⟨rfl,rfl⟩
   rw[zfgz,HG.out]
   go_wp2
   go_ret
   exact ⟨zez (by rw[HV.out]),rfl⟩
  |false=>
   have HG:Hid (jbz c=false):=hg
   by_cases h128:(c:Int)<128
   ·have hcell:=(hM c (by omega)).1
    have HV:Hid (yPz c=vdz c):=by show _=_;unfold yPz;rw[hl,hg];rfl
    generalize vdz c=b at hcell HV
    clear hl hg hM
    go_enter Tryz.func158,Tryz.ntmps158
    go_wp2_with fail
    refine (jnz c _ hc).mono ?_
    rintro e w' ⟨rfl,rfl⟩
    rw[HL.out]
    go_wp2_with fail
    refine (xaz c _ (by omega)).mono ?_
    rintro e w' ⟨rfl,rfl⟩
    rw[zfgz,HG.out]
    go_wp2
    go_ret
    exact ⟨zez (by rw[HV.out]),rfl⟩
   have HV:Hid (yPz c=false):=by
    show _=_
    cases hx:yPz c with
    |false=>rfl
    |true=>have:=zq2z hx;omega
   have h129:128≤(c:Int):=by omega
   clear hl hg hM h128
   go_enter Tryz.func158,Tryz.ntmps158
   go_wp2_with fail
   refine (jnz c _ hc).mono ?_
   rintro e w' ⟨rfl,rfl⟩
   rw[HL.out]
   go_wp2_with fail
   refine (xaz c _ (by omega)).mono ?_
   rintro e w' ⟨rfl,rfl⟩
   rw[zfgz,HG.out]
   go_wp2
   go_ret
   exact ⟨zez (by rw[HV.out]),rfl⟩
theorem zdOz{set:Int}(c:Int)(h: ¬(1≤set∧set≤3)):vwz set c=false:=by
 unfold vwz
 rw[zosz h]
 simp
theorem zndz(set:Int){c:Int}(h:c<0):vwz set c=false:=by
 unfold vwz
 rw[decide_eq_false (by omega)]
 rfl
theorem znez(set:Int){c:Int}(h:128≤c):vwz set c=false:=by
 unfold vwz
 cases hx:ytz set c.toNat with
 |false=>simp
 |true=>have:=zq3z hx;omega
theorem zbLz(set:Int)(n:Nat):vwz set (n:Int)=ytz set n:=by simp[vwz]
theorem zjfz{set:Int}(h:1≤set∧set≤3):ytz set 47=decide (set≠3):=by simp[ytz,h,yPz,yEz,jbz,vdz,zalz]
theorem zjgz{set:Int}(h:1≤set∧set≤3):ytz set 63=decide (set=2):=by simp[ytz,h,yPz,yEz,jbz,vdz,zalz]
theorem zk9z{set:Int}{n:Nat}(h:1≤set∧set≤3)(h1:n≠47)(h2:n≠63):ytz set n=(zalz n||yPz n):=by
 simp[ytz,h,h1,h2,Bool.or_comm]
theorem znfz(set c:Int)(w:World)(hM:xFz w):
  Calls Tryz.prog 216 #[.int .i64 set,.int .i64 c] w fun e w'=>e=.returned (.bool (vwz set c))∧w=w':=by
 by_cases h1:set<1
 ·have HV:Hid (vwz set c=false):=zdOz c (by omega)
  clear hM
  go_enter Tryz.func216,Tryz.ntmps216
  go_wp2
  go_ret
  exact ⟨zez (by rw[HV.out]),rfl⟩
 by_cases h3:3<set
 ·have HV:Hid (vwz set c=false):=zdOz c (by omega)
  clear hM
  go_enter Tryz.func216,Tryz.ntmps216
  go_wp2
  go_ret
  exact ⟨zez (by rw[HV.out]),rfl⟩
 by_cases hc0:c<0
 ·have HV:Hid (vwz set c=false):=zndz set hc0
  clear hM
  go_enter Tryz.func216,Tryz.ntmps216
  go_wp2
  go_ret
  exact ⟨zez (by rw[HV.out]),rfl⟩
 by_cases hc1:128≤c
 ·have HV:Hid (vwz set c=false):=znez set hc1
  clear hM
  go_enter Tryz.func216,Tryz.ntmps216
  go_wp2
  go_ret
  exact ⟨zez (by rw[HV.out]),rfl⟩
 have hv:1≤set∧set≤3:=by omega
 obtain ⟨n,rfl⟩:=Int.eq_ofNat_of_zero_le (show 0≤c by omega)
 rw[zbLz]
 have hc2:(n:Int)<128:=by omega
 have hc3:0≤(n:Int):=by omega
 clear hc0 hc1
 by_cases hs:n=47
 ·subst hs
  have HV:Hid (ytz set 47=decide (set≠3)):=zjfz hv
  clear hM
  by_cases he:set=3
  ·go_enter Tryz.func216,Tryz.ntmps216
   go_wp2
   go_ret
   exact ⟨zez (by first|(rw[HV.out];simp[he])|decide),rfl⟩
  go_enter Tryz.func216,Tryz.ntmps216
  go_wp2
  go_ret
  exact ⟨zez (by first|(rw[HV.out];simp[he])|decide),rfl⟩
 by_cases hq:n=63
 ·subst hq
  have HV:Hid (ytz set 63=decide (set=2)):=zjgz hv
  clear hM
  by_cases he:set=2
  ·go_enter Tryz.func216,Tryz.ntmps216
   go_wp2
   go_ret
   exact ⟨zez (by first|(rw[HV.out];simp[he])|decide),rfl⟩
  go_enter Tryz.func216,Tryz.ntmps216
  go_wp2
  go_ret
  exact ⟨zez (by first|(rw[HV.out];simp[he])|decide),rfl⟩
 have HV:Hid (ytz set n=(zalz n||yPz n)):=zk9z hv hs hq
 have hs': ¬(n:Int)=47:=by omega
 have hq': ¬(n:Int)=63:=by omega
 have hcell:=(hM n (by omega)).2
 have HM:Hid (xFz w):=hM
 clear hM hs hq hv
 generalize zalz n=b at hcell HV
 cases b with
 |true=>
  go_enter Tryz.func216,Tryz.ntmps216
  go_wp2
  go_ret
  exact ⟨zez (by rw[HV.out];rfl),rfl⟩
 |false=>
  go_enter Tryz.func216,Tryz.ntmps216
  go_wp2_with fail
  refine (zblz n _ HM.out (by omega)).mono ?_
  rintro e w' ⟨rfl,rfl⟩
  go_wp2
  go_ret
  exact ⟨zez (by rw[HV.out];rfl),rfl⟩
end Go.Proofs.YtgcbaphbiaimoaaGreatDoor
namespace Go.Proofs.YtgcbaphbiaimoaaGreatDoor
open Go.ChangeShapes Go.WideShapes Go.ChangeAt Go.RowKit Go.Lib
theorem zoNz:ownKnob Tryz.prog.godebug=none:=by kernel_rfl
theorem zcYz:laidOutB Tryz.prog=true:=by kernel_rfl
def zbMz(f:Nat→Bool):DataW Unit:=.agg ((List.range 128).map fun i=> .lit (.bool (f i)))
theorem zlaz:(Rows.laid_loop_example_g00191_impl_plainMarks:DataW Unit)=zbMz vdz:=by kernel_rfl
theorem zngz:(Rows.laid_loop_example_g00191_impl_keptMarks:DataW Unit)=zbMz zalz:=by kernel_rfl
theorem zbmz{P:Program}{w:World}{name:String}{g:Nat}{t e:TypeId}{f:Nat→Bool}(hn:P.globalNamed name=some g)(hy:(P.globals[g]?).map (·.type)=some t)(ht:P.underlying t=some (.array 128 e))(he:P.underlying e=some .bool)(hce:P.cellsOf e=1)
  (h:VarReads P w name (zbMz f)): ∀c,c<128→w.cell? ⟨g,c,none⟩=some (.bool (f c)):=by
 intro c hc
 obtain ⟨g',t',cs,fuel,p,hg,hty,hvar,hd⟩:=h
 obtain rfl:=Option.some.inj (hn.symm.trans hg)
 obtain rfl:=Option.some.inj (hy.symm.trans hty)
 unfold zbMz at hd
 obtain ⟨fuel',d,q,hdi,hx⟩:=array_elem ht hd c hc
 simp only[List.getElem?_map,List.getElem?_range hc,Option.map_some,Option.some.injEq]at hdi
 subst hdi
 rw[hce]at hx
 obtain ⟨b,hb,hxx⟩:=DataW.trod_bool he hx
 have hfb:f c=b:=by simpa using congrArg Prod.fst hxx
 have e0:=congrArg (·[0]?) hb
 simp only[List.getElem?_take,List.getElem?_drop]at e0
 rw[World.var?_cell hg hvar c,←Array.getElem?_toList,hfb]
 simpa using e0
theorem zoOz{H:Type}{enc:TypeId×Value→H}{P:Program}{w:World}{sp:Nat→Bool}{n0 n1:String}{gs:List (DataW H)}{ps:List MemPlace}(h:DataW.TrodVars enc P w sp [n0,n1] gs ps): ∃g0 g1,gs=[g0,g1]:=by
 match gs,h with
 |[],h=>exact h.elim
 |[_],⟨_,_,_,_,_,_,_,_,_,_,h,_⟩=>exact h.elim
 |[a,b],_=>exact ⟨a,b,rfl⟩
 |_::_::_::_,⟨_,_,_,_,_,_,_,_,_,_,h,_⟩=>
  obtain ⟨_,_,_,_,_,_,_,_,_,_,h2,_⟩:=h
  exact h2.elim
def zjhz(f:Nat→Bool):Obj→Obj
 | .cells _ t frozen=> .cells ((List.range 128).map fun i=>Value.bool (f i)).toArray t frozen
 |o=>o
def znhz(h:Array Obj):Array Obj:=(h.modify 6 (zjhz vdz)).modify 9 (zjhz zalz)
end Go.Proofs.YtgcbaphbiaimoaaGreatDoor
