/- UrlErr, UrlBack, UrlTail. -/
import Derived.Test.YtgcbaphbiaimoaaGreatDoorQP30
import Derived.LaidEql
import Derived.Stop.Asserts
import Derived.RowKitTokens
set_option maxHeartbeats 4000000
set_option maxRecDepth 100000
namespace Go.Proofs.YtgcbaphbiaimoaaGreatDoor
open Go.RowKit Go.Extern.Stop Go.Stop Go.Extern
theorem ztXz(t:Value)(w:World):
  Calls Tryz.prog 47 #[.nilIface,t] w fun e w'=>e=.returned (.bool false)∧w=w':=by
 go_enter Tryz.func47,Tryz.ntmps47
 go_wp2
 go_ret
 exact ⟨rfl,rfl⟩
theorem zoYz(t:Addr)(w:World):(ReflectliteValue.unpack (.iface 71 (.pointer (some t)))).run Tryz.prog w
  =.ok (.agg #[.pointer (some ⟨14,71,none⟩),.pointer (some ⟨w.heap.size,0,none⟩),.int .u64 150]) (w.alloc (.cells #[.pointer (some t)] 71)):=by kernel_rfl
theorem zrhz(a:Addr)(w:World):(ReflectliteValue.methodAny (ReflectliteValue.valueError "reflectlite.Value.Type" 0) (fun t _ _ _=>ReflectliteType.toType t) #[.agg #[.pointer (some ⟨14,71,none⟩),.pointer (some a),.int .u64 150]]).run Tryz.prog w
  =.ok (.iface 159 (.agg #[.pointer (some ⟨14,71,none⟩)])) w:=by kernel_rfl
theorem zhgz(h:Value)(w:World):(Go.method 392 159 (.agg #[h]) "Kind").run Tryz.prog w=.ok (329,h) w:=by kernel_rfl
theorem zriz(w:World):((ReflectliteType.abiMethod fun t=>(fun a:Nat=>Value.int IntKind.u8 (a:Int))<$>Rtype.kind t) #[.pointer (some ⟨14,71,none⟩)]).run Tryz.prog w=.ok (.int .u8 22) w:=by kernel_rfl
theorem zrjz(w:World):((ReflectliteType.abiMethod fun t=>(fun a:Nat=>Value.int IntKind.u8 (a:Int))<$>Rtype.kind t) #[.pointer (some ⟨14,69,none⟩)]).run Tryz.prog w=.ok (.int .u8 25) w:=by kernel_rfl
theorem rlm(z:Sem Value)(f:TypeId→Addr→Nat→Nat→Sem Value)(a:Addr)(w:World):(ReflectliteValue.method z f #[.agg #[.pointer (some ⟨14,71,none⟩),.pointer (some a),.int .u64 150]]).run Tryz.prog w=(f 71 a 150 22).run Tryz.prog w:=by kernel_rfl
theorem zoZz(a p:Addr)(W:World)(ha:W.cell? a=some (.pointer (some p))):
  (ReflectliteValue.method (ReflectliteValue.valueError "reflectlite.Value.IsNil" 0) ReflectliteValue.isNil #[.agg #[.pointer (some ⟨14,71,none⟩),.pointer (some a),.int .u64 150]]).run Tryz.prog W=.ok (.bool false) W:=by
 rw[rlm]
 simp[ReflectliteValue.isNil,loadVar,isAgg,underlying,Tryz.underlying71,ha,Result.andThen]
theorem zhhz(h:Value)(w:World):(Go.method 392 159 (.agg #[h]) "Elem").run Tryz.prog w=.ok (344,.agg #[h]) w:=by kernel_rfl
theorem zhiz(h:Value)(w:World):(Go.method 392 159 (.agg #[h]) "Implements").run Tryz.prog w=.ok (345,.agg #[h]) w:=by kernel_rfl
theorem zfez(h:Value)(w:World):(Go.method 392 159 (.agg #[h]) "AssignableTo").run Tryz.prog w=.ok (342,.agg #[h]) w:=by kernel_rfl
theorem zrkz(w:World):(ReflectliteType.method ReflectliteType.elem #[.agg #[.pointer (some ⟨14,71,none⟩)]]).run Tryz.prog w=.ok (.iface 159 (.agg #[.pointer (some ⟨14,69,none⟩)])) w:=by kernel_rfl
theorem zrlz(w:World):(ReflectliteType.relation "Implements" ReflectliteType.implements_ #[.agg #[.pointer (some ⟨14,69,none⟩)],.iface 159 (.agg #[.pointer (some ⟨14,65,none⟩)])]).run Tryz.prog w=.ok (.bool true) w:=by kernel_rfl
theorem zmwz(v:Value)(w:World):(ReflectliteType.typeOf #[.iface 69 v]).run Tryz.prog w=.ok (.iface 159 (.agg #[.pointer (some ⟨14,69,none⟩)])) w:=by kernel_rfl
theorem zmxz(w:World):(ReflectliteType.relation "AssignableTo" ReflectliteType.assignableTo #[.agg #[.pointer (some ⟨14,69,none⟩)],.iface 159 (.agg #[.pointer (some ⟨14,69,none⟩)])]).run Tryz.prog w=.ok (.bool true) w:=by kernel_rfl
theorem zo0z(c:Int)(w:World):(ReflectliteValue.unpack (.iface 69 (.agg #[.int .i64 c]))).run Tryz.prog w
  =.ok (.agg #[.pointer (some ⟨14,69,none⟩),.pointer (some ⟨w.heap.size,0,none⟩),.int .u64 153]) (w.alloc (.cells #[.int .i64 c] 69)):=by kernel_rfl
theorem zmyz(w:World):(Rtype.elem? 71).run Tryz.prog w=.ok (some 69) w:=by kernel_rfl
theorem ztYz(p:Addr)(w:World):(ReflectliteValue.mk 69 p ReflectliteValue.flagAddr).run Tryz.prog w=.ok (.agg #[.pointer (some ⟨14,69,none⟩),.pointer (some p),.int .u64 409]) w:=by kernel_rfl
theorem zrmz(a p:Addr)(W:World)(ha:W.cell? a=some (.pointer (some p))):
  (ReflectliteValue.method (ReflectliteValue.valueError "reflectlite.Value.Elem" 0) ReflectliteValue.elem #[.agg #[.pointer (some ⟨14,71,none⟩),.pointer (some a),.int .u64 150]]).run Tryz.prog W
   =.ok (.agg #[.pointer (some ⟨14,69,none⟩),.pointer (some p),.int .u64 409]) W:=by
 rw[rlm]
 simp[ReflectliteValue.elem,loadVar,isAgg,underlying,Tryz.underlying71,ha,Result.andThen,zmyz,ztYz]
theorem rls(a b:Addr)(w:World):(ReflectliteValue.set #[.agg #[.pointer (some ⟨14,69,none⟩),.pointer (some a),.int .u64 409],.agg #[.pointer (some ⟨14,69,none⟩),.pointer (some b),.int .u64 153]]).run Tryz.prog w
  =(do let v←loadVar 69 b;storeVar 69 a v;pure (.tuple #[]):Sem Value).run Tryz.prog w:=by kernel_rfl
theorem zsWz(b:Nat)(c:Int)(W:World)(hb:W.cell? ⟨b,0,none⟩=some (.int .i64 c)):(loadVar 69 ⟨b,0,none⟩).run Tryz.prog W=.ok (.agg #[.int .i64 c]) W:=by
 have hr:=run_loadVar_mid (P:=Tryz.prog) W b 0 69 [.int .i64 c] _ (fun j v hv=>by
  match j,hv with
  |0,hv=>cases hv;exact hb) Tryz.underlying69 rfl (by kernel_rfl)
 exact hr
theorem ztZz(t b:Nat)(c:Int)(old:Value)(W:World)(hb:W.cell? ⟨b,0,none⟩=some (.int .i64 c))(ht:W.cell? ⟨t,0,none⟩=some old)(hf:W.frozen? ⟨t,0,none⟩=false):
  (ReflectliteValue.set #[.agg #[.pointer (some ⟨14,69,none⟩),.pointer (some ⟨t,0,none⟩),.int .u64 409],.agg #[.pointer (some ⟨14,69,none⟩),.pointer (some ⟨b,0,none⟩),.int .u64 153]]).run Tryz.prog W
   =.ok (.tuple #[]) (W.setCell ⟨t,0,none⟩ (.int .i64 c)):=by
 rw[rls]
 simp[zsWz b c W hb,Result.andThen,storeVar,Value.cells,storeCells,Addr.add]
 rw[run_store Tryz.prog W ⟨t,0,none⟩ _ _ (by rfl)]
 simp[ht,hf]
theorem zt0z(c:Int)(t:Nat)(old:Value)(w:World)(hg:ErrT w)(ht0:w.cell? ⟨t,0,none⟩=some old)(hf0:w.frozen? ⟨t,0,none⟩=false):
  Calls Tryz.prog 47 #[.iface 69 (.agg #[.int .i64 c]),.iface 71 (.pointer (some ⟨t,0,none⟩))] w fun ev w'=>ev=.returned (.bool true)∧w'=((((w.alloc (.cells #[.pointer (some ⟨t,0,none⟩)] 71)).alloc (.cells #[.pointer (some ⟨14,71,none⟩),.pointer (some ⟨w.heap.size,0,none⟩),.int .u64 150] 122)).alloc (.cells #[.pointer (some ⟨14,71,none⟩),.pointer (some ⟨w.heap.size,0,none⟩),.int .u64 150] 122)).alloc (.cells #[.int .i64 c] 69)).setCell ⟨t,0,none⟩ (.int .i64 c):=by
 have h6:= @run_callFunc_extern Tryz.prog 105 _ (fun args=>ReflectliteValue.unpack (args.getD 0 (.tuple #[]))) Tryz.func105 (by kernel_rfl) (by kernel_rfl) (by kernel_rfl) (by kernel_rfl)
 have h7:= @run_callFunc_extern Tryz.prog 106 _ (ReflectliteValue.methodAny (ReflectliteValue.valueError "reflectlite.Value.Type" 0) (fun t _ _ _=>ReflectliteType.toType t)) Tryz.func106 (by kernel_rfl) (by kernel_rfl) (by kernel_rfl) (by kernel_rfl)
 have h8:= @run_callFunc_extern Tryz.prog 107 _ (ReflectliteValue.method (ReflectliteValue.valueError "reflectlite.Value.IsNil" 0) ReflectliteValue.isNil) Tryz.func107 (by kernel_rfl) (by kernel_rfl) (by kernel_rfl) (by kernel_rfl)
 have h27:= @run_callFunc_extern Tryz.prog 329 _ (ReflectliteType.abiMethod fun t=>do pure (.int .u8 (←Rtype.kind t))) Tryz.func329 (by kernel_rfl) (by kernel_rfl) (by kernel_rfl) (by kernel_rfl)
 have h37:= @run_callFunc_extern Tryz.prog 344 _ (ReflectliteType.method ReflectliteType.elem) Tryz.func344 (by kernel_rfl) (by kernel_rfl) (by kernel_rfl) (by kernel_rfl)
 have h38:= @run_callFunc_extern Tryz.prog 345 _ (ReflectliteType.relation "Implements" ReflectliteType.implements_) Tryz.func345 (by kernel_rfl) (by kernel_rfl) (by kernel_rfl) (by kernel_rfl)
 have h10:= @run_callFunc_extern Tryz.prog 160 _ ReflectliteType.typeOf Tryz.func160 (by kernel_rfl) (by kernel_rfl) (by kernel_rfl) (by kernel_rfl)
 have h35:= @run_callFunc_extern Tryz.prog 342 _ (ReflectliteType.relation "AssignableTo" ReflectliteType.assignableTo) Tryz.func342 (by kernel_rfl) (by kernel_rfl) (by kernel_rfl) (by kernel_rfl)
 have h11:= @run_callFunc_extern Tryz.prog 161 _ (ReflectliteValue.method (ReflectliteValue.valueError "reflectlite.Value.Elem" 0) ReflectliteValue.elem) Tryz.func161 (by kernel_rfl) (by kernel_rfl) (by kernel_rfl) (by kernel_rfl)
 have h12:= @run_callFunc_extern Tryz.prog 162 _ ReflectliteValue.set Tryz.func162 (by kernel_rfl) (by kernel_rfl) (by kernel_rfl) (by kernel_rfl)
 have tO:=zmwz
 have mA:=zfez
 have a25:=zmxz
 have v25:=zo0z
 have f6:=zoYz
 have f7:=zrhz
 have mK:=zhgz
 have mE:=zhhz
 have mI:=zhiz
 have k27:=zriz
 have k25:=zrjz
 have e27:=zrkz
 have i25:=zrlz
 have n8:=zoZz ⟨w.heap.size,0,none⟩ ⟨t,0,none⟩ ((w.alloc (.cells #[.pointer (some ⟨t,0,none⟩)] 71)).alloc (.cells #[.pointer (some ⟨14,71,none⟩),.pointer (some ⟨w.heap.size,0,none⟩),.int .u64 150] 122)) (by simp)
 have hlt:0<w.heap.size:=World.block_lt_of_cell? w ⟨0,0,none⟩ hg
 have hg2:((w.alloc (.cells #[.pointer (some ⟨t,0,none⟩)] 71)).alloc (.cells #[.pointer (some ⟨14,71,none⟩),.pointer (some ⟨w.heap.size,0,none⟩),.int .u64 150] 122)).cell? ⟨0,0,none⟩=some (.iface 159 (.agg #[.pointer (some ⟨14,65,none⟩)])):=by
  rw[World.cell?_alloc_lt _ _ ⟨0,0,none⟩ (Nat.lt_of_lt_of_le hlt (by simp)),World.cell?_alloc_lt _ _ ⟨0,0,none⟩ hlt];exact hg
 have htl:t<w.heap.size:=World.block_lt_of_cell? w ⟨t,0,none⟩ ht0
 have el:=zrmz ⟨w.heap.size,0,none⟩ ⟨t,0,none⟩ (((w.alloc (.cells #[.pointer (some ⟨t,0,none⟩)] 71)).alloc (.cells #[.pointer (some ⟨14,71,none⟩),.pointer (some ⟨w.heap.size,0,none⟩),.int .u64 150] 122)).alloc (.cells #[.pointer (some ⟨14,71,none⟩),.pointer (some ⟨w.heap.size,0,none⟩),.int .u64 150] 122)) (by rw[World.cell?_alloc_lt _ _ ⟨w.heap.size,0,none⟩ (by simp;omega)];simp)
 have st:=ztZz t (w.heap.size+1+1+1) c old ((((w.alloc (.cells #[.pointer (some ⟨t,0,none⟩)] 71)).alloc (.cells #[.pointer (some ⟨14,71,none⟩),.pointer (some ⟨w.heap.size,0,none⟩),.int .u64 150] 122)).alloc (.cells #[.pointer (some ⟨14,71,none⟩),.pointer (some ⟨w.heap.size,0,none⟩),.int .u64 150] 122)).alloc (.cells #[.int .i64 c] 69))
  (by rw[World.cell?_alloc_at _ _ _ _ (by simp)];rfl)
  (by rw[World.cell?_alloc_lt _ _ ⟨t,0,none⟩ (by simp;omega),World.cell?_alloc_lt _ _ ⟨t,0,none⟩ (by simp;omega),World.cell?_alloc_lt _ _ ⟨t,0,none⟩ (by simp;omega),World.cell?_alloc_lt _ _ ⟨t,0,none⟩ htl];exact ht0)
  (by rw[World.frozen?_alloc_old _ _ ⟨t,0,none⟩ (by simp;omega),World.frozen?_alloc_old _ _ ⟨t,0,none⟩ (by simp;omega),World.frozen?_alloc_old _ _ ⟨t,0,none⟩ (by simp;omega),World.frozen?_alloc_old _ _ ⟨t,0,none⟩ (Nat.ne_of_lt htl)];exact hf0)
 unfold ErrT at hg
 go_enter Tryz.func47,Tryz.ntmps47
 go_wp2
 refine wp_loop_rounds 1 ?_
 rw[rounds_succ]
 go_wp2
 go_ret
 exact ⟨rfl,rfl⟩
end Go.Proofs.YtgcbaphbiaimoaaGreatDoor
namespace Go.Proofs.YtgcbaphbiaimoaaGreatDoor
open Go.RowKit
set_option linter.unusedVariables false
def txC(n:Nat):Bool:=decide (n≠35∧n≠9∧n≠10∧n≠13∧n≠32∧n≠92)
def auC(n:Nat):Bool:=txC n&&decide (n≠47∧n≠63∧n≠64)
theorem zjtz: ∀n,n<256→(yHz 2 n=true∨n=37∨0≤zEz n)→txC n=true:=by decide+kernel
theorem zsXz: ∀n,n<256→yHz 1 n=true→yHz 2 n=true∧n≠63:=by decide+kernel
theorem zt1z: ∀n,n<256→0≤zEz n→n≠63:=by decide+kernel
theorem zt2z: ∀n,n<256→xXz (UInt8.ofNat n)=true→auC n=true∧n≠58∧n≠93:=by decide+kernel
theorem zclz{c:UInt8}(h:xXz c=true):auC c.toNat=true∧c.toNat≠58∧c.toNat≠93:=zt2z c.toNat c.toNat_lt (by simpa using h)
theorem au_tx{n:Nat}(h:auC n=true):txC n=true:=by
 unfold auC at h
 rw[Bool.and_eq_true]at h
 exact h.1
theorem zrnz{l:List UInt8}(h:okL 2 l=true): ∀c∈l,txC c.toNat=true:=fun c hc=>by
 refine zjtz c.toNat c.toNat_lt ?_
 rcases zkDz 2 l h c hc with h1|h1|h1
 ·exact .inl h1
 ·exact .inr (.inl (by rw[h1];rfl))
 exact .inr (.inr h1)
theorem zjuz{l:List UInt8}(h:okL 1 l=true): ∀c∈l,txC c.toNat=true∧c.toNat≠63:=fun c hc=>by
 rcases zkDz 1 l h c hc with h1|h1|h1
 ·have h2:=zsXz c.toNat c.toNat_lt h1
  exact ⟨zjtz c.toNat c.toNat_lt (.inl h2.1),h2.2⟩
 ·rw[h1];decide
 exact ⟨zjtz c.toNat c.toNat_lt (.inr (.inr h1)),zt1z c.toNat c.toNat_lt h1⟩
theorem zfzz: ∀i,i<16→xXz (hxU i)=true:=by decide+kernel
theorem zroz{n:Nat}(h:n<65536): ∀c∈zCz n,xXz c=true:=by
 intro c hc
 unfold zCz at hc
 split at hc
 ·simp only[List.mem_cons,List.not_mem_nil,or_false]at hc
  rw[hc];exact zfzz _ (by omega)
 split at hc
 ·simp only[List.mem_cons,List.not_mem_nil,or_false]at hc
  rcases hc with e|e<;>rw[e]<;>exact zfzz _ (by omega)
 split at hc
 ·simp only[List.mem_cons,List.not_mem_nil,or_false]at hc
  rcases hc with e|e|e<;>rw[e]<;>exact zfzz _ (by omega)
 simp only[List.mem_cons,List.not_mem_nil,or_false]at hc
 rcases hc with e|e|e|e<;>rw[e]<;>exact zfzz _ (by omega)
theorem zrpz(b:UInt8): ∀{fs:List (List UInt8)} {c:UInt8},c∈jl b fs→c=b∨ ∃x∈fs,c∈x
 |[],c,h=>by simp[jl]at h
 |[x],c,h=> .inr ⟨x,by simp,by simpa[jl] using h⟩
 |x::y::r,c,h=>by
  rw[jl]at h
  rcases List.mem_append.1 h with h1|h1
  ·exact .inr ⟨x,by simp,h1⟩
  rcases List.mem_cons.1 h1 with h2|h2
  ·exact .inl h2
  rcases zrpz b h2 with h3|⟨z,hz,h3⟩
  ·exact .inl h3
  exact .inr ⟨z,List.mem_cons_of_mem _ hz,h3⟩
theorem zmzz{gs:List Nat}(h: ∀g∈gs,g<65536): ∀c∈gtL gs,xXz c=true∨c=58:=by
 intro c hc
 rcases zrpz 58 hc with h1|⟨x,hx,h1⟩
 ·exact .inr h1
 obtain ⟨g,hg,rfl⟩:=List.mem_map.1 hx
 exact .inl (zroz (h g hg) c h1)
theorem zsYz{w:List Nat}(h: ∀g∈w,g<65536)(f e:Nat): ∀c∈ip6T w f e,xXz c=true∨c=58:=by
 intro c hc
 unfold ip6T at hc
 split at hc
 ·exact zmzz h c hc
 rcases List.mem_append.1 hc with h1|h1
 ·exact zmzz (fun g hg=>h g (List.mem_of_mem_take hg)) c h1
 rcases List.mem_cons.1 h1 with h2|h2
 ·exact .inr h2
 rcases List.mem_cons.1 h2 with h3|h3
 ·exact .inr h3
 exact zmzz (fun g hg=>h g (List.mem_of_mem_drop hg)) c h3
theorem zrqz(z:List Int): ∀c∈xbz z,xXz c=true∨c=58:=by
 intro c hc
 unfold xbz at hc
 split at hc
 ·next h=>
  refine zsYz (fun g hg=> ?_) _ _ c hc
  obtain ⟨x,hx,rfl⟩:=List.mem_map.1 hg
  have:=ziUz h x hx
  omega
 cases hc
theorem zgPz{h:HV}(ho:hOk h=true)(hn:0<(hTx h).size):(∀c∈toL (hTx h),xXz c=true∨c=46)∨(∃m,toL (hTx h)=91::(m++[93])∧ ∀c∈m,xXz c=true∨c=58):=by
 unfold hTx
 rw[if_pos ho]
 unfold hOk at ho
 by_cases h1:h.k=1
 ·rw[if_pos h1]at ho⊢
  simp only[Bool.and_eq_true,decide_eq_true_eq]at ho
  obtain ⟨ls,_,_,_,hl,hj,_⟩:=zcez ho.1.1.1
  refine .inl ?_
  show ∀c∈h.s.data.toList,_
  rw[hj]
  exact zgiz fun a ha=>(hl a ha).1
 rw[if_neg h1]at ho⊢
 by_cases h2:h.k=2
 ·rw[if_pos h2]at ho⊢
  simp only[Bool.and_eq_true,decide_eq_true_eq]at ho
  have hnm:z6z (xaz h.n)=some (xaz h.n).data.toList:=zkrz (by omega)
  obtain ⟨ls,_,_,_,hl,hj,_⟩:=zcez hnm
  refine .inl ?_
  show ∀c∈(xaz h.n).data.toList,_
  rw[hj]
  exact zgiz fun a ha=>(hl a ha).1
 rw[if_neg h2]
 exact .inr ⟨xbz h.z,rfl,zrqz h.z⟩
theorem jYz{p:UInt8→Bool}{l:List UInt8}(h: ∀c∈l,p c=false):l.dropWhile p=l:=by
 cases l with
 |nil=>rfl
 |cons c r=>rw[List.dropWhile_cons,h c (by simp)];rfl
theorem zauz{p:UInt8→Bool}: ∀{l:List UInt8},(∀c∈l,p c=true)→l.takeWhile p=l∧l.dropWhile p=[]
 |[],_=>⟨rfl,rfl⟩
 |c::r,h=>by
  obtain ⟨h1,h2⟩:=zauz (p:=p) (l:=r) fun x hx=>h x (List.mem_cons_of_mem _ hx)
  rw[List.takeWhile_cons,List.dropWhile_cons,h c (by simp),if_pos rfl,if_pos rfl,h1,h2]
  exact ⟨rfl,rfl⟩
theorem jzz{p:UInt8→Bool}{c:UInt8}{r:List UInt8}(hc:p c=false): ∀{l:List UInt8},(∀x∈l,p x=true)→(l++c::r).takeWhile p=l∧(l++c::r).dropWhile p=c::r
 |[],_=>by
  rw[List.nil_append,List.takeWhile_cons,List.dropWhile_cons,hc]
  exact ⟨rfl,rfl⟩
 |x::l,h=>by
  obtain ⟨h1,h2⟩:=jzz (p:=p) (r:=r) hc (l:=l) fun y hy=>h y (List.mem_cons_of_mem _ hy)
  rw[List.cons_append,List.takeWhile_cons,List.dropWhile_cons,h x (by simp),if_pos rfl,if_pos rfl,h1,h2]
  exact ⟨rfl,rfl⟩
theorem jcz{c:UInt8}(h:txC c.toNat=true):vUz.contains c=false∧(c !=35)=true∧(c !=9&&c !=10&&c !=13)=true∧c≠92:=by
 have key: ∀n,n<256→txC n=true→vUz.contains (UInt8.ofNat n)=false∧(UInt8.ofNat n !=35)=true∧(UInt8.ofNat n !=9&&UInt8.ofNat n !=10&&UInt8.ofNat n !=13)=true∧UInt8.ofNat n≠92:=by decide+kernel
 have h1:=key c.toNat c.toNat_lt h
 simpa using h1
theorem zrrz{l:List UInt8}(h: ∀c∈l,txC c.toNat=true):ySz l=l:=by
 have e:Lib.trimS l vUz=l:=by
  unfold Lib.trimS Lib.trimLeftS Lib.trimRightS
  rw[jYz (l:=l.reverse) fun c hc=>(jcz (h c (List.mem_reverse.1 hc))).1,List.reverse_reverse,jYz fun c hc=>(jcz (h c hc)).1]
 unfold ySz
 rw[e,(zauz fun c hc=>(jcz (h c hc)).2.1).1]
 exact List.filter_eq_self.2 fun c hc=>(jcz (h c hc)).2.2.1
theorem zmAz{l:List UInt8}(h: ∀c∈l,txC c.toNat=true):ySz (32::(l++[35,102]))=l:=by
 have e:Lib.trimS (32::(l++[35,102])) vUz=l++[35,102]:=by
  unfold Lib.trimS Lib.trimLeftS Lib.trimRightS
  have e1:(32::(l++[35,102])).reverse=102::(35::(l.reverse++[32])):=by simp
  have e2:vUz.contains 102=false:=by decide
  have e3:vUz.contains 32=true:=by decide
  rw[e1,List.dropWhile_cons,e2]
  have e4:(102::35::(l.reverse++[32])).reverse=32::(l++[35,102]):=by simp
  rw[if_neg (by decide),e4,List.dropWhile_cons,e3,if_pos rfl,jYz]
  intro c hc
  rcases List.mem_append.1 hc with h1|h1
  ·exact (jcz (h c h1)).1
  simp only[List.mem_cons,List.not_mem_nil,or_false]at h1
  rcases h1 with rfl|rfl<;>decide
 unfold ySz
 rw[e,(jzz (p:=fun c=>c !=35) (c:=35) (r:=[102]) (by decide) fun c hc=>(jcz (h c hc)).2.1).1]
 exact List.filter_eq_self.2 fun c hc=>(jcz (h c hc)).2.2.1
theorem zlsz(Y:List UInt8):yrz (zbRz++47::47::Y)=some (1,47::47::Y):=by
 unfold yrz
 rw[if_pos]
 ·rfl
 refine ⟨by simp[zbRz],?_,rfl,rfl⟩
 show [ysz 104,ysz 116,ysz 116,ysz 112,ysz 58]=zbRz
 decide
theorem zjvz(Y:List UInt8):yrz (jTz++47::47::Y)=some (2,47::47::Y):=by
 unfold yrz
 rw[if_neg,if_pos]
 ·rfl
 ·refine ⟨by simp[jTz],?_,rfl,rfl⟩
  show [ysz 104,ysz 116,ysz 116,ysz 112,ysz 115,ysz 58]=jTz
  decide
 rintro ⟨_,h,_⟩
 have h2:[ysz 104,ysz 116,ysz 116,ysz 112,ysz 115]=zbRz:=h
 exact absurd h2 (by decide)
theorem zgQz{c:UInt8}(h:auC c.toNat=true):z3z c=true∧slB c=false∧c≠64:=by
 have key: ∀n,n<256→auC n=true→z3z (UInt8.ofNat n)=true∧slB (UInt8.ofNat n)=false∧UInt8.ofNat n≠64:=by decide+kernel
 have h1:=key c.toNat c.toNat_lt h
 simpa using h1
theorem zrsz(s:Int){auth rest:List UInt8}(h: ∀c∈auth,auC c.toNat=true)(hn:auth≠[]):jUz s (47::47::(auth++47::rest))=cutU s auth (47::rest):=by
 have e:(47::47::(auth++47::rest)).dropWhile slB=auth++47::rest:=by
  rw[List.dropWhile_cons,if_pos (by decide),List.dropWhile_cons,if_pos (by decide)]
  cases auth with
  |nil=>exact absurd rfl hn
  |cons c r=>rw[List.cons_append,List.dropWhile_cons,(zgQz (h c (by simp))).2.1];rfl
 obtain ⟨e1,e2⟩:=jzz (p:=z3z) (c:=47) (r:=rest) (by decide) fun c hc=>(zgQz (h c hc)).1
 unfold jUz
 rw[e,e1,e2]
 unfold zbSz
 rw[if_neg]
 intro h64
 rw[List.contains_iff_mem]at h64
 exact (zgQz (h 64 h64)).2.2 rfl
theorem zc3z{l:List UInt8}(h: ∀c∈l,c≠93): ∀k,xpz l k=0
 |0=>rfl
 |k+1=>by
  unfold xpz
  rw[if_neg,zc3z h k]
  intro e
  by_cases hk:k<l.length
  ·rw[List.getD_eq_getElem?_getD,List.getElem?_eq_getElem hk]at e
   exact h _ (List.getElem_mem hk) e
  rw[List.getD_eq_getElem?_getD,List.getElem?_eq_none (by omega)]at e
  exact absurd e (by decide)
theorem zgRz{a b:List UInt8}(h: ∀c∈b,c≠93): ∀j,xpz (a++93::b) (a.length+1+j)=a.length
 |0=>by
  show xpz (a++93::b) (a.length+1)=_
  unfold xpz
  rw[if_pos]
  simp[List.getD_eq_getElem?_getD]
 |j+1=>by
  show xpz (a++93::b) (a.length+1+j+1)=_
  unfold xpz
  rw[if_neg,zgRz h j]
  intro e
  rw[List.getD_eq_getElem?_getD,List.getElem?_append_right (by omega),show a.length+1+j-a.length=j+1 by omega,List.getElem?_cons_succ]at e
  by_cases hk:j<b.length
  ·rw[List.getElem?_eq_getElem hk]at e
   exact h _ (List.getElem_mem hk) e
  rw[List.getElem?_eq_none (by omega)]at e
  exact absurd e (by decide)
theorem zioz: ∀{l:List UInt8},(∀c∈l,c≠58)→l.findIdx? (fun c=>c==58)=none
 |[],_=>rfl
 |c::r,h=>by
  rw[List.findIdx?_cons,if_neg (by simpa using h c (by simp)),zioz fun x hx=>h x (List.mem_cons_of_mem _ hx)]
  rfl
theorem znRz{y:List UInt8}: ∀{l:List UInt8},(∀c∈l,c≠58)→(l++58::y).findIdx? (fun c=>c==58)=some l.length
 |[],_=>by rw[List.nil_append,List.findIdx?_cons,if_pos (by decide)];rfl
 |c::r,h=>by
  rw[List.cons_append,List.findIdx?_cons,if_neg (by simpa using h c (by simp)),znRz fun x hx=>h x (List.mem_cons_of_mem _ hx)]
  rfl
theorem zrtz{H d:List UInt8}(h: ∀c∈H,c≠58∧c≠93)(hd: ∀c∈d,c≠93):vDz H=none∧vDz (H++58::d)=some H.length:=by
 constructor
 ·unfold vDz
  rw[zc3z (fun c hc=>(h c hc).2),List.drop_zero,zioz fun c hc=>(h c hc).1]
  rfl
 have hall: ∀c∈H++58::d,c≠93:=fun c hc=>by
  rcases List.mem_append.1 hc with h1|h1
  ·exact (h c h1).2
  rcases List.mem_cons.1 h1 with h2|h2
  ·rw[h2];decide
  exact hd c h2
 unfold vDz
 rw[zc3z hall,List.drop_zero,znRz fun c hc=>(h c hc).1]
 rfl
theorem zsZz{m d:List UInt8}(hd: ∀c∈d,c≠93):vDz (91::(m++[93]))=none∧vDz (91::(m++[93])++58::d)=some (91::(m++[93])).length:=by
 have e1:91::(m++[93])=(91::m)++93::[]:=by simp
 have e2:91::(m++[93])++58::d=(91::m)++93::(58::d):=by simp
 have hd2: ∀c∈(58::d:List UInt8),c≠93:=fun c hc=>by
  rcases List.mem_cons.1 hc with h2|h2
  ·rw[h2];decide
  exact hd c h2
 constructor
 ·have h1:=zgRz (a:=91::m) (b:=[]) (fun c hc=>by cases hc) 0
  have hl:((91::m)++93::([]:List UInt8)).length=(91::m).length+1+0:=by simp
  unfold vDz
  rw[e1,hl,h1,List.drop_left]
  rfl
 have h1:=zgRz (a:=91::m) (b:=58::d) hd2 (58::d).length
 have hl:((91::m)++93::(58::d)).length=(91::m).length+1+(58::d).length:=by simp;omega
 unfold vDz
 rw[e2,hl,h1,List.drop_left]
 rw[List.findIdx?_cons,if_neg (by decide),List.findIdx?_cons,if_pos (by decide)]
 simp
 omega
theorem zs0z{l:List UInt8}(h: ∀c∈l,c≠92):yRz l=l:=by
 unfold yRz
 conv=>rhs;rw[←List.map_id l]
 exact List.map_congr_left fun c hc=>if_neg (h c hc)
theorem zmBz(a:ByteArray):(⟨(toL a).toArray⟩:ByteArray)=a:=zIz rfl
theorem vNz{u:UV}(h:uOk u=true):zSz u.s≠0∧hOk u.h=true∧(1≤u.p∧u.p≤65535)∧zi9z u.a∧(u.q=true∨u.r.size=0)∧okL 2 (toL u.r)=true∧plL 2 (toL u.r)=toL u.r:=by
 unfold uOk at h
 simp only[Bool.and_eq_true,Bool.or_eq_true,decide_eq_true_eq]at h
 obtain ⟨⟨⟨⟨⟨⟨⟨⟨⟨h1,h2⟩,h3⟩,h4⟩,h5⟩,h6⟩,h7⟩,h8⟩,h9⟩,h10⟩:=h
 exact ⟨h1,h2,h3,⟨h4,h6,h7,zIz h8⟩,h5,h9,h10⟩
theorem zt3z{u:UV}(h1:zSz u.s≠0)(h2:hOk u.h=true)(h3:1≤u.p∧u.p≤65535)(h4:zi9z u.a)(h5:u.q=true∨u.r.size=0)(h6:okL 2 (toL u.r)=true)(h7:plL 2 (toL u.r)=toL u.r):uOk u=true:=by
 unfold uOk
 simp only[Bool.and_eq_true,Bool.or_eq_true,decide_eq_true_eq]
 exact ⟨⟨⟨⟨⟨⟨⟨⟨⟨h1,h2⟩,h3⟩,h4.1⟩,h5⟩,h4.2.1⟩,h4.2.2.1⟩,by rw[h4.2.2.2]⟩,h6⟩,h7⟩
theorem zo4z{u:UV}(h:uOk u=true):zaQz u.s u.h u.p (jhz u)=u:=by
 obtain ⟨_,_,_,ha,hq,ho,hp⟩:=vNz h
 obtain ⟨hr,hao,hap,had⟩:=ha
 have hax:=zjuz hao
 have hne:toL u.a≠[]:=by
  obtain ⟨r,e⟩:=zabz hr
  rw[show toL u.a=_ from e]
  simp
 have hA:zXz (plB 1 ⟨(yRz (orSl (toL u.a))).toArray⟩)=u.a:=by
  unfold orSl
  rw[if_neg hne,zs0z fun c hc=>(jcz (hax c hc).1).2.2.2,zmBz]
  have e:plB 1 u.a=u.a:=by
   apply zIz
   rw[zacz]
   exact hap
  rw[e,had]
 have hR:plB 2 ⟨(toL u.r).toArray⟩=u.r:=by
  rw[zmBz]
  apply zIz
  rw[zacz]
  exact hp
 have h63: ∀c∈toL u.a,(c !=63)=true:=fun c hc=>by
  rw[bne_iff_ne]
  intro e
  exact (hax c hc).2 (by rw[e];rfl)
 unfold zaQz jhz
 cases hqq:u.q with
 |true=>
  rw[if_pos rfl]
  obtain ⟨e1,e2⟩:=jzz (p:=fun c=>c !=63) (c:=63) (r:=toL u.r) (by decide) h63
  rw[e1,e2]
  simp only[List.drop_succ_cons,List.drop_zero,List.isEmpty_cons,Bool.not_false]
  rw[hA,hR,←hqq]
 |false=>
  rw[if_neg (by decide)]
  obtain ⟨e1,e2⟩:=zauz (p:=fun c=>c !=63) h63
  rw[e1,e2]
  have hr0:u.r=ByteArray.empty:=by
   rcases hq with h1|h1
   ·rw[hqq]at h1;cases h1
   apply zIz
   exact List.eq_nil_of_length_eq_zero (by simpa[toL] using h1)
  simp only[List.drop_nil,List.isEmpty_nil,Bool.not_true]
  have e3:plB 2 ⟨([]:List UInt8).toArray⟩=u.r:=by rw[hr0];rfl
  rw[hA,e3,←hqq]
theorem zgSz{u:UV}(h:uOk u=true)(hb:0<(hTx u.h).size): ∃rest:List UInt8,jhz u=47::rest∧uTx u=vvz u.s++47::47::((toL (hTx u.h)++xoz u.s u.p)++47::rest)∧
  (∀c∈toL (hTx u.h)++xoz u.s u.p,auC c.toNat=true)∧toL (hTx u.h)++xoz u.s u.p≠[]∧(∀c∈uTx u,txC c.toNat=true):=by
 obtain ⟨hs,hh,hp,ha,hq,ho,hpl⟩:=vNz h
 obtain ⟨r,hr⟩:=zabz ha.1
 have hrs: ∃rest:List UInt8,jhz u=47::rest:=by
  unfold jhz
  rw[show toL u.a=_ from hr]
  split
  ·exact ⟨r++63::toL u.r,rfl⟩
  exact ⟨r,rfl⟩
 obtain ⟨rest,hrest⟩:=hrs
 have hx:uTx u=vvz u.s++47::47::((toL (hTx u.h)++xoz u.s u.p)++47::rest):=by
  unfold uTx
  rw[if_pos h,hrest]
  unfold orgL
  simp
 have hau: ∀c∈toL (hTx u.h)++xoz u.s u.p,auC c.toNat=true:=by
  intro c hc
  rcases List.mem_append.1 hc with h1|h1
  ·rcases zgPz hh hb with h2|⟨m,h2,h3⟩
   ·rcases h2 c h1 with h4|h4
    ·exact (zclz h4).1
    rw[h4];decide
   rw[h2]at h1
   rcases List.mem_cons.1 h1 with h4|h4
   ·rw[h4];decide
   rcases List.mem_append.1 h4 with h5|h5
   ·rcases h3 c h5 with h6|h6
    ·exact (zclz h6).1
    rw[h6];decide
   rw[List.mem_singleton.1 h5];decide
  unfold xoz at h1
  split at h1
  ·cases h1
  rcases List.mem_cons.1 h1 with h4|h4
  ·rw[h4];decide
  exact (zclz ((zkEz (by omega)).1 c h4)).1
 have hne:toL (hTx u.h)++xoz u.s u.p≠[]:=by
  intro e
  have h1:=congrArg List.length e
  have h2:(toL (hTx u.h)).length=(hTx u.h).size:=by simp[toL]
  rw[List.length_append,h2,List.length_nil]at h1
  omega
 have hrt: ∀c∈jhz u,txC c.toNat=true:=by
  intro c hc
  unfold jhz at hc
  split at hc
  ·rcases List.mem_append.1 hc with h1|h1
   ·exact (zjuz ha.2.1 c h1).1
   rcases List.mem_cons.1 h1 with h2|h2
   ·rw[h2];decide
   exact zrnz ho c h2
  exact (zjuz ha.2.1 c hc).1
 refine ⟨rest,hrest,hx,hau,hne,?_⟩
 rw[hx]
 intro c hc
 rcases List.mem_append.1 hc with h1|h1
 ·clear hc
  unfold vvz at h1
  split at h1
  ·revert c;decide
  revert c;decide
 rcases List.mem_cons.1 h1 with h2|h2
 ·rw[h2];decide
 rcases List.mem_cons.1 h2 with h3|h3
 ·rw[h3];decide
 rcases List.mem_append.1 h3 with h4|h4
 ·exact au_tx (hau c h4)
 rw[←hrest]at h4
 exact hrt c h4
theorem zruz{u:UV}(h:uOk u=true)(hb:0<(hTx u.h).size)(hv:rV (zmz (hTx u.h))=u.h)(hc:rC (zmz (hTx u.h))=0)(hl:(orgL u).length+(jhz u).length≤2000):cutU u.s (toL (hTx u.h)++xoz u.s u.p) (jhz u)=(0,u):=by
 obtain ⟨hs,hh,hp,ha,hq,ho,hpl⟩:=vNz h
 have hhost:zadz u.s u.p (toL (hTx u.h)) (jhz u)=(0,u):=by
  unfold zadz
  rw[zmBz,hc,if_pos rfl,hv,zo4z h]
  unfold fitU
  rw[if_pos hl]
 have hd5:=zkEz (n:=u.p.toNat) (by omega)
 have hd93: ∀c∈x1z u.p.toNat,c≠93:=fun c hc e=>(zclz (hd5.1 c hc)).2.2 (by rw[e];rfl)
 have hcol:vDz (toL (hTx u.h))=none∧vDz (toL (hTx u.h)++58::x1z u.p.toNat)=some (toL (hTx u.h)).length:=by
  rcases zgPz hh hb with h2|⟨m,h2,h3⟩
  ·refine zrtz (fun c hc=> ?_) hd93
   rcases h2 c hc with h4|h4
   ·exact ⟨fun e=>(zclz h4).2.1 (by rw[e];rfl),fun e=>(zclz h4).2.2 (by rw[e];rfl)⟩
   rw[h4];decide
  rw[h2]
  exact zsZz hd93
 unfold xoz
 by_cases hd:u.p=zSz u.s
 ·rw[if_pos hd,List.append_nil]
  unfold cutU
  rw[hcol.1]
  simp only
  rw[←hd]
  exact hhost
 rw[if_neg hd]
 have hpn:yJz u.s (x1z u.p.toNat)=u.p:=by
  unfold yJz
  rw[if_neg hd5.2,zqtz (by omega)]
  simp only
  omega
 unfold cutU
 rw[hcol.2]
 simp only
 have e1:(toL (hTx u.h)++58::x1z u.p.toNat).drop ((toL (hTx u.h)).length+1)=x1z u.p.toNat:=by
  rw[List.drop_append,List.drop_of_length_le (by omega)]
  simp
 have e2:(toL (hTx u.h)++58::x1z u.p.toNat).take (toL (hTx u.h)).length=toL (hTx u.h):=List.take_left
 rw[e1,e2,hpn,if_pos hp]
 exact hhost
theorem zo5z{u:UV}(h:uOk u=true)(hb:0<(hTx u.h).size)(hv:rV (zmz (hTx u.h))=u.h)(hc:rC (zmz (hTx u.h))=0)(hl:(orgL u).length+(jhz u).length≤2000):zaRz (uTx u)=(0,u):=by
 obtain ⟨rest,hr,hx,hau,hne,_⟩:=zgSz h hb
 have hcut:=zruz h hb hv hc hl
 rw[hr]at hcut
 have hs:=(vNz h).1
 have hs12:u.s=1∨u.s=2:=by
  unfold zSz at hs
  by_cases h1:u.s=1
  ·exact .inl h1
  rw[if_neg h1]at hs
  by_cases h2:u.s=2
  ·exact .inr h2
  rw[if_neg h2]at hs;exact absurd rfl hs
 unfold zaRz
 rw[hx]
 have hgo:=zrsz u.s (rest:=rest) hau hne
 rcases hs12 with h1|h1
 ·have e:vvz u.s=zbRz:=by unfold vvz;rw[if_pos h1]
  rw[e,zlsz]
  simp only
  rw[←h1,hgo,hcut]
 have e:vvz u.s=jTz:=by unfold vvz;rw[if_neg (by omega)]
 rw[e,zjvz]
 simp only
 rw[←h1,hgo,hcut]
theorem zgTz{u:UV}(h:uOk u=true):(uTx u).length=(orgL u).length+(jhz u).length:=by
 unfold uTx
 rw[if_pos h,List.length_append]
theorem zrvz{u:UV}(h:uOk u=true)(hb:0<(hTx u.h).size)(hv:rV (zmz (hTx u.h))=u.h)(hc:rC (zmz (hTx u.h))=0)(hl:(uTx u).length≤2000):zwz (uTx u)=(0,u)∧((uTx u).length≤1997→zwz (32::(uTx u++[35,102]))=(0,u)):=by
 obtain ⟨_,_,_,_,_,htx⟩:=zgSz h hb
 have hr:=zo5z h hb hv hc (by rw[←zgTz h];exact hl)
 constructor
 ·unfold zwz
  rw[if_neg (by omega),zrrz htx,hr]
 intro h3
 unfold zwz
 rw[if_neg (by simp only[List.length_cons,List.length_append,List.length_nil];omega),zmAz htx,hr]
def zgUz(r:Int×UV):Prop:=(1≤r.1∧r.1≤5∧r.2=y3z)∨(r.1=0∧uOk r.2=true∧(orgL r.2).length+(jhz r.2).length≤2000)
theorem za0z{c:Int}(h:1≤c∧c≤5):zgUz (c,y3z):=.inl ⟨h.1,h.2,rfl⟩
theorem zgVz{s p:Int}{h:HV}{l:List UInt8}(hs:zSz s≠0)(hh:hOk h=true)(hp:1≤p∧p≤65535)(hl: ∀c r,l=c::r→z3z c=false):uOk (zaQz s h p l)=true:=by
 have hroot:zVz ⟨(yRz (orSl (l.takeWhile fun c=>c !=63))).toArray⟩=true:=by
  cases l with
  |nil=>rfl
  |cons c r=>
   have hc:=hl c r rfl
   have key: ∀n,n<256→z3z (UInt8.ofNat n)=false→n=47∨n=92∨n=63:=by decide+kernel
   have h1:=key c.toNat c.toNat_lt (by simpa using hc)
   by_cases h63:c.toNat=63
   ·have e:c=63:=UInt8.toNat_inj.1 h63
    rw[e,List.takeWhile_cons,if_neg (by decide)]
    rfl
   have e:(c !=63)=true:=by
    rw[bne_iff_ne]
    intro e
    exact h63 (by rw[e];rfl)
   rw[List.takeWhile_cons,e,if_pos rfl]
   have h47:c=47∨c=92:=by
    rcases h1 with h2|h2|h2
    ·exact .inl (UInt8.toNat_inj.1 h2)
    ·exact .inr (UInt8.toNat_inj.1 h2)
    exact absurd h2 h63
   apply zhXz (r:=yRz (r.takeWhile fun c=>c !=63))
   rcases h47 with rfl|rfl<;>rfl
 refine zt3z hs hh hp (zoDz hroot) ?_ ?_ ?_
 ·unfold zaQz
  simp only
  cases hm:l.dropWhile fun c=>c !=63 with
  |nil=>exact .inr rfl
  |cons _ _=>exact .inl rfl
 ·show okL 2 (plL 2 _)=true
  exact zmPz 2 (by decide) _
 show plL 2 (plL 2 _)=plL 2 _
 exact ztaz 2 (by decide) _
theorem zgWz{s p:Int}{auth rest:List UInt8}(hs:zSz s≠0)(hp:1≤p∧p≤65535)(hl: ∀c r,rest=c::r→z3z c=false):zgUz (zadz s p auth rest):=by
 unfold zadz
 split
 ·next hc=>
  have hh:hOk (rV (zmz ⟨auth.toArray⟩))=true:=by
   rcases zi5z ⟨auth.toArray⟩with ⟨c,h1,h2,_⟩|h1
   ·rw[h1]at hc
    have:c=0:=hc
    omega
   exact h1.1
  unfold fitU
  split
  ·next h2=>exact .inr ⟨rfl,zgVz hs hh hp hl,h2⟩
  exact za0z (by decide)
 exact za0z (by decide)
theorem zrwz{s:Int}(hs:zSz s≠0):1≤zSz s∧zSz s≤65535:=by
 unfold zSz at hs⊢
 split
 ·decide
 next h=>
 rw[if_neg h]at hs
 split
 ·decide
 next h2=>rw[if_neg h2]at hs;exact absurd rfl hs
theorem zltz{s:Int}{t:List UInt8}(hs:zSz s≠0):zgUz (jUz s t):=by
 have hl: ∀c r,(t.dropWhile slB).dropWhile z3z=c::r→z3z c=false:=by
  intro c r e
  have h:=List.head?_dropWhile_not z3z (t.dropWhile slB)
  rw[e]at h
  simpa using h
 unfold jUz zbSz
 split
 ·exact za0z (by decide)
 unfold cutU
 split
 ·exact zgWz hs (zrwz hs) hl
 split
 ·next h=>exact zgWz hs h hl
 exact za0z (by decide)
theorem zipz(l:List UInt8):zgUz (zwz l):=by
 unfold zwz
 split
 ·exact za0z (by decide)
 unfold zaRz
 split
 ·exact za0z (by decide)
 next s t h=>
 apply zltz
 unfold yrz at h
 split at h
 ·cases h;decide
 split at h
 ·cases h;decide
 cases h
end Go.Proofs.YtgcbaphbiaimoaaGreatDoor
namespace Go.Proofs.YtgcbaphbiaimoaaGreatDoor
open Go.RowKit
def zd6z(l:ByteArray):ByteArray:=⟨(l.data.toList.takeWhile fun c=>c !=63).toArray⟩
def vcz(l:ByteArray):ByteArray:=⟨(l.data.toList.dropWhile fun c=>c !=63).toArray⟩
def jmz(l:ByteArray):ByteArray:=if l.size=0 then ⟨#[47]⟩else l
def zb0z(l:ByteArray):ByteArray:=zXz (plB 1 ⟨(yRz (jmz (zd6z l)).data.toList).toArray⟩)
def zd7z(l:ByteArray):Bool:=decide (0<(vcz l).size)
def zbvz(l:ByteArray):ByteArray:=plB 2 ((vcz l).extract 1 (vcz l).size)
theorem zrxz(c:UInt8):yOz (⟨#[63]⟩:ByteArray).data.toList (c.toNat:Int)= !(c !=63):=by
 have key: ∀n:Nat,n<256→yOz [63] (n:Int)= !(UInt8.ofNat n !=63):=by decide+kernel
 have h:=key c.toNat c.toNat_lt
 simpa using h
theorem jZz{p:UInt8→Bool}(l:ByteArray):(⟨(l.data.toList.takeWhile p).toArray⟩:ByteArray).size≤l.size∧(⟨(l.data.toList.dropWhile p).toArray⟩:ByteArray).size≤l.size:=by
 have h:l.data.toList.length=l.size:=by simp
 have h1:=congrArg List.length (List.takeWhile_append_dropWhile (p:=p) (l:=l.data.toList))
 rw[List.length_append,h]at h1
 constructor
 ·show (l.data.toList.takeWhile p).toArray.size≤_
  rw[List.size_toArray]
  omega
 show (l.data.toList.dropWhile p).toArray.size≤_
 rw[List.size_toArray]
 omega
theorem zryz(s k n p:Int)(nm a r:ByteArray)(q:Bool)(x0 x1 x2 x3 x4 x5 x6 x7:Int)(l:ByteArray)(w:World)(hl:l.size≤4194303):
  Calls Tryz.prog 59 #[.agg #[.int .i64 s,.int .i64 k,.string nm,.int .i64 n,.int .i64 x0,.int .i64 x1,.int .i64 x2,.int .i64 x3,.int .i64 x4,.int .i64 x5,.int .i64 x6,.int .i64 x7,.int .i64 p,.string a,.bool q,.string r],.string l] w fun e w'=>e=.returned (.agg (zqz s k nm n x0 x1 x2 x3 x4 x5 x6 x7 p (zb0z l) (zd7z l) (zbvz l)).toArray)∧Below w.heap.size w w':=by
 obtain ⟨hs1,hs2⟩:=jZz (p:=fun c=>c !=63) l
 have CU:Hid (∀W,CB 54 #[.string l,.string ⟨#[63]⟩] W (.tuple #[.string (zd6z l),.string (vcz l)])):=fun W=>zh0z (fun c=>c !=63) ⟨#[63]⟩ l W (by decide) zrxz (by omega)
 have hps:(jmz (zd6z l)).size≤4194304:=by
  unfold jmz
  split
  ·decide
  exact Nat.le_trans hs1 (by omega)
 have CP:Hid (∀W,CB 117 #[.string (jmz (zd6z l))] W (.string (zb0z l))):=fun W=>zqLz _ W hps
 have CR:Hid (∀W,CB 41 #[.string ((vcz l).extract 1 (vcz l).size),.int .i64 2] W (.string (zbvz l))):=fun W=>zeTz _ 2 W (by rw[ByteArray.size_extract];have:(vcz l).size≤l.size:=hs2;omega)
 have HQ:Hid (zd7z l=decide (0<(vcz l).size)):=rfl
 have HR0:Hid ((vcz l).size=0→zbvz l=⟨#[]⟩):=fun h=>by
  show plB 2 ((vcz l).extract 1 (vcz l).size)=_
  apply zIz
  rw[zacz]
  have e:toL ((vcz l).extract 1 (vcz l).size)=[]:=List.eq_nil_of_length_eq_zero (by simp[toL];omega)
  rw[e]
  rfl
 have hms:(vcz l).size≤l.size:=hs2
 generalize zb0z l=A at CP⊢
 generalize zbvz l=RR at CR HR0⊢
 generalize vcz l=M at CU CR HQ HR0 hms
 generalize zd6z l=PP at CU CP hps
 clear hs1 hs2
 obtain ⟨O,hO⟩: ∃O,O=(w.alloc (.cells #[.int .i64 s,.int .i64 k,.string nm,.int .i64 n,.int .i64 x0,.int .i64 x1,.int .i64 x2,.int .i64 x3,.int .i64 x4,.int .i64 x5,.int .i64 x6,.int .i64 x7,.int .i64 p,.string a,.bool q,.string r] 28)).alloc (.cells #[.int .i64 0,.int .i64 0,.string ⟨#[]⟩,.int .i64 0,.int .i64 0,.int .i64 0,.int .i64 0,.int .i64 0,.int .i64 0,.int .i64 0,.int .i64 0,.int .i64 0,.int .i64 0,.string ⟨#[]⟩,.bool false,.string ⟨#[]⟩] 28):=⟨_,rfl⟩
 have HU:Hid (UAt O w.heap.size (zqz s k nm n x0 x1 x2 x3 x4 x5 x6 x7 p a q r)):=by
  rw[hO]
  exact (UAt.new w _ _).below ((Below.refl _ _).alloc (Nat.le_refl _) _)
 have HV:Hid (UAt O (w.heap.size+1) zHz):=by
  rw[hO]
  have h:=UAt.new (w.alloc (.cells #[.int .i64 s,.int .i64 k,.string nm,.int .i64 n,.int .i64 x0,.int .i64 x1,.int .i64 x2,.int .i64 x3,.int .i64 x4,.int .i64 x5,.int .i64 x6,.int .i64 x7,.int .i64 p,.string a,.bool q,.string r] 28)) #[.int .i64 0,.int .i64 0,.string ⟨#[]⟩,.int .i64 0,.int .i64 0,.int .i64 0,.int .i64 0,.int .i64 0,.int .i64 0,.int .i64 0,.int .i64 0,.int .i64 0,.int .i64 0,.string ⟨#[]⟩,.bool false,.string ⟨#[]⟩] 28
  rw[World.size_alloc]at h
  exact h
 have HB:Hid (Below w.heap.size w O):=by
  rw[hO]
  exact ((Below.refl _ w).alloc (Nat.le_refl _) _).alloc (by simp) _
 go_enter Tryz.func59,Tryz.ntmps59
 go_wp2_with fail
 rw[←hO]
 clear hO
 refine (CU.out _).mono ?_
 rintro e w1 ⟨rfl,b1⟩
 have HU1:Hid (UAt w1 w.heap.size (zqz s k nm n x0 x1 x2 x3 x4 x5 x6 x7 p a q r)):=HU.out.below b1
 have HV1:Hid (UAt w1 (w.heap.size+1) zHz):=HV.out.below b1
 have HB1:Hid (Below w.heap.size w w1):=HB.out.trans (b1.mono HB.out.size)
 clear b1 HU HV HB
 go_upto_if 13 with fail
 go_cut [5] (fun v wx=>v=.string (jmz PP)∧wx=w1)
 case first=>
  by_cases h0:PP.size=0
  ·have HE:Hid (jmz PP=⟨#[47]⟩):=by show _=_;unfold jmz;rw[if_pos h0]
   rw[zsz h0]
   go_wp2_with fail
   go_meet
   exact ⟨by rw[HE.out],rfl⟩
  have HE:Hid (jmz PP=PP):=by show _=_;unfold jmz;rw[if_neg h0]
  rw[zvz (show 0<PP.size by omega)]
  go_wp2_with fail
  go_meet
  exact ⟨by rw[HE.out],rfl⟩
 obtain ⟨rfl,rfl⟩:=hcut
 go_wp2_with fail
 refine (CP.out _).mono ?_
 rintro e w2 ⟨rfl,b2⟩
 have HU2:=HU1.out.below b2
 have HV2:Hid (UAt w2 (w.heap.size+1) zHz):=HV1.out.below b2
 have HB2:Hid (Below w.heap.size w w2):=HB1.out.trans (b2.mono HB1.out.size)
 have c13:=HU2.1 13 _ rfl
 have c14:=HU2.1 14 _ rfl
 have c15:=HU2.1 15 _ rfl
 have f13:=HU2.2.1 13
 have f14:=HU2.2.1 14
 have f15:=HU2.2.1 15
 obtain ⟨b,hb⟩: ∃b,(!M.toList.isEmpty)=b:=⟨_,rfl⟩
 have hqb:zd7z l=b:=by
  rw[HQ.out,←hb]
  by_cases h0:M.size=0
  ·rw[zsz h0,decide_eq_false (by omega)];rfl
  rw[zvz (show 0<M.size by omega),decide_eq_true (by omega)];rfl
 have HU3:Hid (UAt (((w2.setCell ⟨w.heap.size,13,none⟩ (.string A)).setCell ⟨w.heap.size,14,none⟩ (.bool b)).setCell ⟨w.heap.size,15,none⟩ (.string ⟨#[]⟩)) w.heap.size (zqz s k nm n x0 x1 x2 x3 x4 x5 x6 x7 p A b ⟨#[]⟩)):=
  ((HU2.set 13 (by simp[zqz]) _).set 14 (by simp[zqz]) _).set 15 (by simp[zqz]) _
 have HV3:Hid (UAt (((w2.setCell ⟨w.heap.size,13,none⟩ (.string A)).setCell ⟨w.heap.size,14,none⟩ (.bool b)).setCell ⟨w.heap.size,15,none⟩ (.string ⟨#[]⟩)) (w.heap.size+1) zHz):=
  ((HV2.out.other (by omega) _ _).other (by omega) _ _).other (by omega) _ _
 have HB3:Hid (Below w.heap.size w (((w2.setCell ⟨w.heap.size,13,none⟩ (.string A)).setCell ⟨w.heap.size,14,none⟩ (.bool b)).setCell ⟨w.heap.size,15,none⟩ (.string ⟨#[]⟩))):=
  ((HB2.out.setCell (p:=⟨w.heap.size,13,none⟩) (Nat.le_refl _) _).setCell (p:=⟨w.heap.size,14,none⟩) (Nat.le_refl _) _).setCell (p:=⟨w.heap.size,15,none⟩) (Nat.le_refl _) _
 clear HU2 b2
 go_upto_if 22 with fail
 generalize (((w2.setCell ⟨w.heap.size,13,none⟩ (.string A)).setCell ⟨w.heap.size,14,none⟩ (.bool b)).setCell ⟨w.heap.size,15,none⟩ (.string ⟨#[]⟩))=w3 at HU3 HV3 HB3⊢
 clear c13 c14 c15 f13 f14 f15 HV2 HB2
 have HQB:Hid (zd7z l=b):=hqb
 clear hqb HQ
 go_cut [0] (fun _ wx=>Hid (UAt wx w.heap.size (zqz s k nm n x0 x1 x2 x3 x4 x5 x6 x7 p A b RR))∧Hid (UAt wx (w.heap.size+1) zHz)∧Hid (Below w.heap.size w wx))
 case first=>
  by_cases h0:M.size=0
  ·have hbf:b=false:=by rw[←hb,zsz h0];rfl
   have hR:=HR0.out h0
   subst hbf
   clear hb
   go_wp2_with fail
   go_meet
   exact ⟨by rw[hR];exact HU3,HV3,HB3⟩
  have hbt:b=true:=by rw[←hb,zvz (show 0<M.size by omega)];rfl
  subst hbt
  clear hb
  have hM:1≤M.size:=by omega
  go_wp2_with fail
  refine (CR.out _).mono ?_
  rintro e w4 ⟨rfl,b4⟩
  have HU4:=HU3.out.below b4
  have HV4:=HV3.out.below b4
  have HB4:=HB3.out.trans (b4.mono HB3.out.size)
  have c15:=HU4.1 15 _ rfl
  have f15:=HU4.2.1 15
  have HU5:Hid (UAt (w4.setCell ⟨w.heap.size,15,none⟩ (.string RR)) w.heap.size (zqz s k nm n x0 x1 x2 x3 x4 x5 x6 x7 p A true RR)):=HU4.set 15 (by simp[zqz]) _
  have HV5:Hid (UAt (w4.setCell ⟨w.heap.size,15,none⟩ (.string RR)) (w.heap.size+1) zHz):=HV4.other (by omega) _ _
  have HB5:Hid (Below w.heap.size w (w4.setCell ⟨w.heap.size,15,none⟩ (.string RR))):=HB4.setCell (p:=⟨w.heap.size,15,none⟩) (Nat.le_refl _) _
  clear b4 HU4 HV4 HB4
  go_wp2_with fail
  go_meet
  exact ⟨HU5,HV5,HB5⟩
 obtain ⟨HU,HV,HB⟩:=hcut
 clear HU3 HV3 HB3 CR CP CU HU1 HV1 HB1 HR0 hb
 go_wp2_with (first|(refine xGz HU.out rfl rfl _ rfl rfl ?_)|(refine y5z HV.out rfl (us:=zqz s k nm n x0 x1 x2 x3 x4 x5 x6 x7 p A b RR) rfl (zQz ..) rfl _ _ rfl rfl rfl ?_;intro w9 HU9 HM9))
 refine bodyPost_ret (zlpz rfl _ _ (w.heap.size+1) _ rfl rfl HU9) rfl ⟨by rw[HQB.out],HM9.2 _ _ (Nat.le_succ _) HB.out⟩
end Go.Proofs.YtgcbaphbiaimoaaGreatDoor
