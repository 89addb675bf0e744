/- UrlErr, UrlBack, UrlTail. -/
import Derived.Test.YtgcbaphbiaimoaaGreatDoorQU30
import Derived.LaidEql
import Derived.Stop.Asserts
import Derived.RowKitTokens
set_option maxHeartbeats 4000000
set_option maxRecDepth 100000
namespace Go.Proofs.YtgcbaphbiaimoaaGreatDoor
open Go.RowKit Go.Extern.Stop Go.Stop Go.Extern
theorem zsZz(t:Value)(w:World):
  Calls Tryz.prog 47 #[.nilIface,t] w fun e w'=>e=.returned (.bool false)∧w=w':=by
 go_enter Tryz.func47,Tryz.ntmps47
 go_wp2
 go_ret
 exact ⟨rfl,rfl⟩
theorem zn5z(t:Addr)(w:World):(ReflectliteValue.unpack (.iface 71 (.pointer (some t)))).run Tryz.prog w
  =.ok (.agg #[.pointer (some ⟨14,71,none⟩),.pointer (some ⟨w.heap.size,0,none⟩),.int .u64 150]) (w.alloc (.cells #[.pointer (some t)] 71)):=by kernel_rfl
theorem zqrz(a:Addr)(w:World):(ReflectliteValue.methodAny (ReflectliteValue.valueError "reflectlite.Value.Type" 0) (fun t _ _ _=>ReflectliteType.toType t) #[.agg #[.pointer (some ⟨14,71,none⟩),.pointer (some a),.int .u64 150]]).run Tryz.prog w
  =.ok (.iface 159 (.agg #[.pointer (some ⟨14,71,none⟩)])) w:=by kernel_rfl
theorem zgDz(h:Value)(w:World):(Go.method 392 159 (.agg #[h]) "Kind").run Tryz.prog w=.ok (329,h) w:=by kernel_rfl
theorem zqsz(w:World):((ReflectliteType.abiMethod fun t=>(fun a:Nat=>Value.int IntKind.u8 (a:Int))<$>Rtype.kind t) #[.pointer (some ⟨14,71,none⟩)]).run Tryz.prog w=.ok (.int .u8 22) w:=by kernel_rfl
theorem zqtz(w:World):((ReflectliteType.abiMethod fun t=>(fun a:Nat=>Value.int IntKind.u8 (a:Int))<$>Rtype.kind t) #[.pointer (some ⟨14,69,none⟩)]).run Tryz.prog w=.ok (.int .u8 25) w:=by kernel_rfl
theorem rlm(z:Sem Value)(f:TypeId→Addr→Nat→Nat→Sem Value)(a:Addr)(w:World):(ReflectliteValue.method z f #[.agg #[.pointer (some ⟨14,71,none⟩),.pointer (some a),.int .u64 150]]).run Tryz.prog w=(f 71 a 150 22).run Tryz.prog w:=by kernel_rfl
theorem zn6z(a p:Addr)(W:World)(ha:W.cell? a=some (.pointer (some p))):
  (ReflectliteValue.method (ReflectliteValue.valueError "reflectlite.Value.IsNil" 0) ReflectliteValue.isNil #[.agg #[.pointer (some ⟨14,71,none⟩),.pointer (some a),.int .u64 150]]).run Tryz.prog W=.ok (.bool false) W:=by
 rw[rlm]
 simp[ReflectliteValue.isNil,loadVar,isAgg,underlying,Tryz.underlying71,ha,Result.andThen]
theorem zgEz(h:Value)(w:World):(Go.method 392 159 (.agg #[h]) "Elem").run Tryz.prog w=.ok (344,.agg #[h]) w:=by kernel_rfl
theorem zgFz(h:Value)(w:World):(Go.method 392 159 (.agg #[h]) "Implements").run Tryz.prog w=.ok (345,.agg #[h]) w:=by kernel_rfl
theorem zeBz(h:Value)(w:World):(Go.method 392 159 (.agg #[h]) "AssignableTo").run Tryz.prog w=.ok (342,.agg #[h]) w:=by kernel_rfl
theorem zquz(w:World):(ReflectliteType.method ReflectliteType.elem #[.agg #[.pointer (some ⟨14,71,none⟩)]]).run Tryz.prog w=.ok (.iface 159 (.agg #[.pointer (some ⟨14,69,none⟩)])) w:=by kernel_rfl
theorem zqvz(w:World):(ReflectliteType.relation "Implements" ReflectliteType.implements_ #[.agg #[.pointer (some ⟨14,69,none⟩)],.iface 159 (.agg #[.pointer (some ⟨14,65,none⟩)])]).run Tryz.prog w=.ok (.bool true) w:=by kernel_rfl
theorem zlPz(v:Value)(w:World):(ReflectliteType.typeOf #[.iface 69 v]).run Tryz.prog w=.ok (.iface 159 (.agg #[.pointer (some ⟨14,69,none⟩)])) w:=by kernel_rfl
theorem zlQz(w:World):(ReflectliteType.relation "AssignableTo" ReflectliteType.assignableTo #[.agg #[.pointer (some ⟨14,69,none⟩)],.iface 159 (.agg #[.pointer (some ⟨14,69,none⟩)])]).run Tryz.prog w=.ok (.bool true) w:=by kernel_rfl
theorem zn7z(c:Int)(w:World):(ReflectliteValue.unpack (.iface 69 (.agg #[.int .i64 c]))).run Tryz.prog w
  =.ok (.agg #[.pointer (some ⟨14,69,none⟩),.pointer (some ⟨w.heap.size,0,none⟩),.int .u64 153]) (w.alloc (.cells #[.int .i64 c] 69)):=by kernel_rfl
theorem zlRz(w:World):(Rtype.elem? 71).run Tryz.prog w=.ok (some 69) w:=by kernel_rfl
theorem zs0z(p:Addr)(w:World):(ReflectliteValue.mk 69 p ReflectliteValue.flagAddr).run Tryz.prog w=.ok (.agg #[.pointer (some ⟨14,69,none⟩),.pointer (some p),.int .u64 409]) w:=by kernel_rfl
theorem zqwz(a p:Addr)(W:World)(ha:W.cell? a=some (.pointer (some p))):
  (ReflectliteValue.method (ReflectliteValue.valueError "reflectlite.Value.Elem" 0) ReflectliteValue.elem #[.agg #[.pointer (some ⟨14,71,none⟩),.pointer (some a),.int .u64 150]]).run Tryz.prog W
   =.ok (.agg #[.pointer (some ⟨14,69,none⟩),.pointer (some p),.int .u64 409]) W:=by
 rw[rlm]
 simp[ReflectliteValue.elem,loadVar,isAgg,underlying,Tryz.underlying71,ha,Result.andThen,zlRz,zs0z]
theorem rls(a b:Addr)(w:World):(ReflectliteValue.set #[.agg #[.pointer (some ⟨14,69,none⟩),.pointer (some a),.int .u64 409],.agg #[.pointer (some ⟨14,69,none⟩),.pointer (some b),.int .u64 153]]).run Tryz.prog w
  =(do let v←loadVar 69 b;storeVar 69 a v;pure (.tuple #[]):Sem Value).run Tryz.prog w:=by kernel_rfl
theorem zr0z(b:Nat)(c:Int)(W:World)(hb:W.cell? ⟨b,0,none⟩=some (.int .i64 c)):(loadVar 69 ⟨b,0,none⟩).run Tryz.prog W=.ok (.agg #[.int .i64 c]) W:=by
 have hr:=run_loadVar_mid (P:=Tryz.prog) W b 0 69 [.int .i64 c] _ (fun j v hv=>by
  match j,hv with
  |0,hv=>cases hv;exact hb) Tryz.underlying69 rfl (by kernel_rfl)
 exact hr
theorem zs1z(t b:Nat)(c:Int)(old:Value)(W:World)(hb:W.cell? ⟨b,0,none⟩=some (.int .i64 c))(ht:W.cell? ⟨t,0,none⟩=some old)(hf:W.frozen? ⟨t,0,none⟩=false):
  (ReflectliteValue.set #[.agg #[.pointer (some ⟨14,69,none⟩),.pointer (some ⟨t,0,none⟩),.int .u64 409],.agg #[.pointer (some ⟨14,69,none⟩),.pointer (some ⟨b,0,none⟩),.int .u64 153]]).run Tryz.prog W
   =.ok (.tuple #[]) (W.setCell ⟨t,0,none⟩ (.int .i64 c)):=by
 rw[rls]
 simp[zr0z b c W hb,Result.andThen,storeVar,Value.cells,storeCells,Addr.add]
 rw[run_store Tryz.prog W ⟨t,0,none⟩ _ _ (by rfl)]
 simp[ht,hf]
theorem zs2z(c:Int)(t:Nat)(old:Value)(w:World)(hg:ErrT w)(ht0:w.cell? ⟨t,0,none⟩=some old)(hf0:w.frozen? ⟨t,0,none⟩=false):
  Calls Tryz.prog 47 #[.iface 69 (.agg #[.int .i64 c]),.iface 71 (.pointer (some ⟨t,0,none⟩))] w fun ev w'=>ev=.returned (.bool true)∧w'=((((w.alloc (.cells #[.pointer (some ⟨t,0,none⟩)] 71)).alloc (.cells #[.pointer (some ⟨14,71,none⟩),.pointer (some ⟨w.heap.size,0,none⟩),.int .u64 150] 122)).alloc (.cells #[.pointer (some ⟨14,71,none⟩),.pointer (some ⟨w.heap.size,0,none⟩),.int .u64 150] 122)).alloc (.cells #[.int .i64 c] 69)).setCell ⟨t,0,none⟩ (.int .i64 c):=by
 have h6:= @run_callFunc_extern Tryz.prog 105 _ (fun args=>ReflectliteValue.unpack (args.getD 0 (.tuple #[]))) Tryz.func105 (by kernel_rfl) (by kernel_rfl) (by kernel_rfl) (by kernel_rfl)
 have h7:= @run_callFunc_extern Tryz.prog 106 _ (ReflectliteValue.methodAny (ReflectliteValue.valueError "reflectlite.Value.Type" 0) (fun t _ _ _=>ReflectliteType.toType t)) Tryz.func106 (by kernel_rfl) (by kernel_rfl) (by kernel_rfl) (by kernel_rfl)
 have h8:= @run_callFunc_extern Tryz.prog 107 _ (ReflectliteValue.method (ReflectliteValue.valueError "reflectlite.Value.IsNil" 0) ReflectliteValue.isNil) Tryz.func107 (by kernel_rfl) (by kernel_rfl) (by kernel_rfl) (by kernel_rfl)
 have h27:= @run_callFunc_extern Tryz.prog 329 _ (ReflectliteType.abiMethod fun t=>do pure (.int .u8 (←Rtype.kind t))) Tryz.func329 (by kernel_rfl) (by kernel_rfl) (by kernel_rfl) (by kernel_rfl)
 have h37:= @run_callFunc_extern Tryz.prog 344 _ (ReflectliteType.method ReflectliteType.elem) Tryz.func344 (by kernel_rfl) (by kernel_rfl) (by kernel_rfl) (by kernel_rfl)
 have h38:= @run_callFunc_extern Tryz.prog 345 _ (ReflectliteType.relation "Implements" ReflectliteType.implements_) Tryz.func345 (by kernel_rfl) (by kernel_rfl) (by kernel_rfl) (by kernel_rfl)
 have h10:= @run_callFunc_extern Tryz.prog 160 _ ReflectliteType.typeOf Tryz.func160 (by kernel_rfl) (by kernel_rfl) (by kernel_rfl) (by kernel_rfl)
 have h35:= @run_callFunc_extern Tryz.prog 342 _ (ReflectliteType.relation "AssignableTo" ReflectliteType.assignableTo) Tryz.func342 (by kernel_rfl) (by kernel_rfl) (by kernel_rfl) (by kernel_rfl)
 have h11:= @run_callFunc_extern Tryz.prog 161 _ (ReflectliteValue.method (ReflectliteValue.valueError "reflectlite.Value.Elem" 0) ReflectliteValue.elem) Tryz.func161 (by kernel_rfl) (by kernel_rfl) (by kernel_rfl) (by kernel_rfl)
 have h12:= @run_callFunc_extern Tryz.prog 162 _ ReflectliteValue.set Tryz.func162 (by kernel_rfl) (by kernel_rfl) (by kernel_rfl) (by kernel_rfl)
 have tO:=zlPz
 have mA:=zeBz
 have a25:=zlQz
 have v25:=zn7z
 have f6:=zn5z
 have f7:=zqrz
 have mK:=zgDz
 have mE:=zgEz
 have mI:=zgFz
 have k27:=zqsz
 have k25:=zqtz
 have e27:=zquz
 have i25:=zqvz
 have n8:=zn6z ⟨w.heap.size,0,none⟩ ⟨t,0,none⟩ ((w.alloc (.cells #[.pointer (some ⟨t,0,none⟩)] 71)).alloc (.cells #[.pointer (some ⟨14,71,none⟩),.pointer (some ⟨w.heap.size,0,none⟩),.int .u64 150] 122)) (by simp)
 have hlt:0<w.heap.size:=World.block_lt_of_cell? w ⟨0,0,none⟩ hg
 have hg2:((w.alloc (.cells #[.pointer (some ⟨t,0,none⟩)] 71)).alloc (.cells #[.pointer (some ⟨14,71,none⟩),.pointer (some ⟨w.heap.size,0,none⟩),.int .u64 150] 122)).cell? ⟨0,0,none⟩=some (.iface 159 (.agg #[.pointer (some ⟨14,65,none⟩)])):=by
  rw[World.cell?_alloc_lt _ _ ⟨0,0,none⟩ (Nat.lt_of_lt_of_le hlt (by simp)),World.cell?_alloc_lt _ _ ⟨0,0,none⟩ hlt];exact hg
 have htl:t<w.heap.size:=World.block_lt_of_cell? w ⟨t,0,none⟩ ht0
 have el:=zqwz ⟨w.heap.size,0,none⟩ ⟨t,0,none⟩ (((w.alloc (.cells #[.pointer (some ⟨t,0,none⟩)] 71)).alloc (.cells #[.pointer (some ⟨14,71,none⟩),.pointer (some ⟨w.heap.size,0,none⟩),.int .u64 150] 122)).alloc (.cells #[.pointer (some ⟨14,71,none⟩),.pointer (some ⟨w.heap.size,0,none⟩),.int .u64 150] 122)) (by rw[World.cell?_alloc_lt _ _ ⟨w.heap.size,0,none⟩ (by simp;omega)];simp)
 have st:=zs1z t (w.heap.size+1+1+1) c old ((((w.alloc (.cells #[.pointer (some ⟨t,0,none⟩)] 71)).alloc (.cells #[.pointer (some ⟨14,71,none⟩),.pointer (some ⟨w.heap.size,0,none⟩),.int .u64 150] 122)).alloc (.cells #[.pointer (some ⟨14,71,none⟩),.pointer (some ⟨w.heap.size,0,none⟩),.int .u64 150] 122)).alloc (.cells #[.int .i64 c] 69))
  (by rw[World.cell?_alloc_at _ _ _ _ (by simp)];rfl)
  (by rw[World.cell?_alloc_lt _ _ ⟨t,0,none⟩ (by simp;omega),World.cell?_alloc_lt _ _ ⟨t,0,none⟩ (by simp;omega),World.cell?_alloc_lt _ _ ⟨t,0,none⟩ (by simp;omega),World.cell?_alloc_lt _ _ ⟨t,0,none⟩ htl];exact ht0)
  (by rw[World.frozen?_alloc_old _ _ ⟨t,0,none⟩ (by simp;omega),World.frozen?_alloc_old _ _ ⟨t,0,none⟩ (by simp;omega),World.frozen?_alloc_old _ _ ⟨t,0,none⟩ (by simp;omega),World.frozen?_alloc_old _ _ ⟨t,0,none⟩ (Nat.ne_of_lt htl)];exact hf0)
 unfold ErrT at hg
 go_enter Tryz.func47,Tryz.ntmps47
 go_wp2
 refine wp_loop_rounds 1 ?_
 rw[rounds_succ]
 go_wp2
 go_ret
 exact ⟨rfl,rfl⟩
end Go.Proofs.YtgcbaphbiaimoaaGreatDoor
namespace Go.Proofs.YtgcbaphbiaimoaaGreatDoor
open Go.RowKit
set_option linter.unusedVariables false
def txC(n:Nat):Bool:=decide (n≠35∧n≠9∧n≠10∧n≠13∧n≠32∧n≠92)
def auC(n:Nat):Bool:=txC n&&decide (n≠47∧n≠63∧n≠64)
theorem ziQz: ∀n,n<256→(ytz 2 n=true∨n=37∨0≤zEz n)→txC n=true:=by decide+kernel
theorem zr1z: ∀n,n<256→ytz 1 n=true→ytz 2 n=true∧n≠63:=by decide+kernel
theorem zs3z: ∀n,n<256→0≤zEz n→n≠63:=by decide+kernel
theorem zs4z: ∀n,n<256→xRz (UInt8.ofNat n)=true→auC n=true∧n≠58∧n≠93:=by decide+kernel
theorem zbXz{c:UInt8}(h:xRz c=true):auC c.toNat=true∧c.toNat≠58∧c.toNat≠93:=zs4z c.toNat c.toNat_lt (by simpa using h)
theorem au_tx{n:Nat}(h:auC n=true):txC n=true:=by
 unfold auC at h
 rw[Bool.and_eq_true]at h
 exact h.1
theorem zqxz{l:List UInt8}(h:okL 2 l=true): ∀c∈l,txC c.toNat=true:=fun c hc=>by
 refine ziQz c.toNat c.toNat_lt ?_
 rcases zjYz 2 l h c hc with h1|h1|h1
 ·exact .inl h1
 ·exact .inr (.inl (by rw[h1];rfl))
 exact .inr (.inr h1)
theorem ziRz{l:List UInt8}(h:okL 1 l=true): ∀c∈l,txC c.toNat=true∧c.toNat≠63:=fun c hc=>by
 rcases zjYz 1 l h c hc with h1|h1|h1
 ·have h2:=zr1z c.toNat c.toNat_lt h1
  exact ⟨ziQz c.toNat c.toNat_lt (.inl h2.1),h2.2⟩
 ·rw[h1];decide
 exact ⟨ziQz c.toNat c.toNat_lt (.inr (.inr h1)),zs3z c.toNat c.toNat_lt h1⟩
theorem zeVz: ∀i,i<16→xRz (hxU i)=true:=by decide+kernel
theorem zqyz{n:Nat}(h:n<65536): ∀c∈zBz n,xRz c=true:=by
 intro c hc
 unfold zBz at hc
 split at hc
 ·simp only[List.mem_cons,List.not_mem_nil,or_false]at hc
  rw[hc];exact zeVz _ (by omega)
 split at hc
 ·simp only[List.mem_cons,List.not_mem_nil,or_false]at hc
  rcases hc with e|e<;>rw[e]<;>exact zeVz _ (by omega)
 split at hc
 ·simp only[List.mem_cons,List.not_mem_nil,or_false]at hc
  rcases hc with e|e|e<;>rw[e]<;>exact zeVz _ (by omega)
 simp only[List.mem_cons,List.not_mem_nil,or_false]at hc
 rcases hc with e|e|e|e<;>rw[e]<;>exact zeVz _ (by omega)
theorem zqzz(b:UInt8): ∀{fs:List (List UInt8)} {c:UInt8},c∈jl b fs→c=b∨ ∃x∈fs,c∈x
 |[],c,h=>by simp[jl]at h
 |[x],c,h=> .inr ⟨x,by simp,by simpa[jl] using h⟩
 |x::y::r,c,h=>by
  rw[jl]at h
  rcases List.mem_append.1 h with h1|h1
  ·exact .inr ⟨x,by simp,h1⟩
  rcases List.mem_cons.1 h1 with h2|h2
  ·exact .inl h2
  rcases zqzz b h2 with h3|⟨z,hz,h3⟩
  ·exact .inl h3
  exact .inr ⟨z,List.mem_cons_of_mem _ hz,h3⟩
theorem zlSz{gs:List Nat}(h: ∀g∈gs,g<65536): ∀c∈gtL gs,xRz c=true∨c=58:=by
 intro c hc
 rcases zqzz 58 hc with h1|⟨x,hx,h1⟩
 ·exact .inr h1
 obtain ⟨g,hg,rfl⟩:=List.mem_map.1 hx
 exact .inl (zqyz (h g hg) c h1)
theorem zr2z{w:List Nat}(h: ∀g∈w,g<65536)(f e:Nat): ∀c∈ip6T w f e,xRz c=true∨c=58:=by
 intro c hc
 unfold ip6T at hc
 split at hc
 ·exact zlSz h c hc
 rcases List.mem_append.1 hc with h1|h1
 ·exact zlSz (fun g hg=>h g (List.mem_of_mem_take hg)) c h1
 rcases List.mem_cons.1 h1 with h2|h2
 ·exact .inr h2
 rcases List.mem_cons.1 h2 with h3|h3
 ·exact .inr h3
 exact zlSz (fun g hg=>h g (List.mem_of_mem_drop hg)) c h3
theorem zqAz(z:List Int): ∀c∈xhz z,xRz c=true∨c=58:=by
 intro c hc
 unfold xhz at hc
 split at hc
 ·next h=>
  refine zr2z (fun g hg=> ?_) _ _ c hc
  obtain ⟨x,hx,rfl⟩:=List.mem_map.1 hg
  have:=ziez h x hx
  omega
 cases hc
theorem zgcz{h:HV}(ho:hOk h=true)(hn:0<(hTx h).size):(∀c∈toL (hTx h),xRz c=true∨c=46)∨(∃m,toL (hTx h)=91::(m++[93])∧ ∀c∈m,xRz c=true∨c=58):=by
 unfold hTx
 rw[if_pos ho]
 unfold hOk at ho
 by_cases h1:h.k=1
 ·rw[if_pos h1]at ho⊢
  simp only[Bool.and_eq_true,decide_eq_true_eq]at ho
  obtain ⟨ls,_,_,_,hl,hj,_⟩:=zbRz ho.1.1.1
  refine .inl ?_
  show ∀c∈h.s.data.toList,_
  rw[hj]
  exact zfCz fun a ha=>(hl a ha).1
 rw[if_neg h1]at ho⊢
 by_cases h2:h.k=2
 ·rw[if_pos h2]at ho⊢
  simp only[Bool.and_eq_true,decide_eq_true_eq]at ho
  have hnm:z7z (xPz h.n)=some (xPz h.n).data.toList:=zjMz (by omega)
  obtain ⟨ls,_,_,_,hl,hj,_⟩:=zbRz hnm
  refine .inl ?_
  show ∀c∈(xPz h.n).data.toList,_
  rw[hj]
  exact zfCz fun a ha=>(hl a ha).1
 rw[if_neg h2]
 exact .inr ⟨xhz h.z,rfl,zqAz h.z⟩
theorem jRz{p:UInt8→Bool}{l:List UInt8}(h: ∀c∈l,p c=false):l.dropWhile p=l:=by
 cases l with
 |nil=>rfl
 |cons c r=>rw[List.dropWhile_cons,h c (by simp)];rfl
theorem zajz{p:UInt8→Bool}: ∀{l:List UInt8},(∀c∈l,p c=true)→l.takeWhile p=l∧l.dropWhile p=[]
 |[],_=>⟨rfl,rfl⟩
 |c::r,h=>by
  obtain ⟨h1,h2⟩:=zajz (p:=p) (l:=r) fun x hx=>h x (List.mem_cons_of_mem _ hx)
  rw[List.takeWhile_cons,List.dropWhile_cons,h c (by simp),if_pos rfl,if_pos rfl,h1,h2]
  exact ⟨rfl,rfl⟩
theorem jtz{p:UInt8→Bool}{c:UInt8}{r:List UInt8}(hc:p c=false): ∀{l:List UInt8},(∀x∈l,p x=true)→(l++c::r).takeWhile p=l∧(l++c::r).dropWhile p=c::r
 |[],_=>by
  rw[List.nil_append,List.takeWhile_cons,List.dropWhile_cons,hc]
  exact ⟨rfl,rfl⟩
 |x::l,h=>by
  obtain ⟨h1,h2⟩:=jtz (p:=p) (r:=r) hc (l:=l) fun y hy=>h y (List.mem_cons_of_mem _ hy)
  rw[List.cons_append,List.takeWhile_cons,List.dropWhile_cons,h x (by simp),if_pos rfl,if_pos rfl,h1,h2]
  exact ⟨rfl,rfl⟩
theorem v9z{c:UInt8}(h:txC c.toNat=true):vPz.contains c=false∧(c !=35)=true∧(c !=9&&c !=10&&c !=13)=true∧c≠92:=by
 have key: ∀n,n<256→txC n=true→vPz.contains (UInt8.ofNat n)=false∧(UInt8.ofNat n !=35)=true∧(UInt8.ofNat n !=9&&UInt8.ofNat n !=10&&UInt8.ofNat n !=13)=true∧UInt8.ofNat n≠92:=by decide+kernel
 have h1:=key c.toNat c.toNat_lt h
 simpa using h1
theorem zqBz{l:List UInt8}(h: ∀c∈l,txC c.toNat=true):xJz l=l:=by
 have e:Lib.trimS l vPz=l:=by
  unfold Lib.trimS Lib.trimLeftS Lib.trimRightS
  rw[jRz (l:=l.reverse) fun c hc=>(v9z (h c (List.mem_reverse.1 hc))).1,List.reverse_reverse,jRz fun c hc=>(v9z (h c hc)).1]
 unfold xJz
 rw[e,(zajz fun c hc=>(v9z (h c hc)).2.1).1]
 exact List.filter_eq_self.2 fun c hc=>(v9z (h c hc)).2.2.1
theorem zlTz{l:List UInt8}(h: ∀c∈l,txC c.toNat=true):xJz (32::(l++[35,102]))=l:=by
 have e:Lib.trimS (32::(l++[35,102])) vPz=l++[35,102]:=by
  unfold Lib.trimS Lib.trimLeftS Lib.trimRightS
  have e1:(32::(l++[35,102])).reverse=102::(35::(l.reverse++[32])):=by simp
  have e2:vPz.contains 102=false:=by decide
  have e3:vPz.contains 32=true:=by decide
  rw[e1,List.dropWhile_cons,e2]
  have e4:(102::35::(l.reverse++[32])).reverse=32::(l++[35,102]):=by simp
  rw[if_neg (by decide),e4,List.dropWhile_cons,e3,if_pos rfl,jRz]
  intro c hc
  rcases List.mem_append.1 hc with h1|h1
  ·exact (v9z (h c h1)).1
  simp only[List.mem_cons,List.not_mem_nil,or_false]at h1
  rcases h1 with rfl|rfl<;>decide
 unfold xJz
 rw[e,(jtz (p:=fun c=>c !=35) (c:=35) (r:=[102]) (by decide) fun c hc=>(v9z (h c hc)).2.1).1]
 exact List.filter_eq_self.2 fun c hc=>(v9z (h c hc)).2.2.1
theorem zkMz(Y:List UInt8):y3z (zdkz++47::47::Y)=some (1,47::47::Y):=by
 unfold y3z
 rw[if_pos]
 ·rfl
 refine ⟨by simp[zdkz],?_,rfl,rfl⟩
 show [yqz 104,yqz 116,yqz 116,yqz 112,yqz 58]=zdkz
 decide
theorem ziSz(Y:List UInt8):y3z (za5z++47::47::Y)=some (2,47::47::Y):=by
 unfold y3z
 rw[if_neg,if_pos]
 ·rfl
 ·refine ⟨by simp[za5z],?_,rfl,rfl⟩
  show [yqz 104,yqz 116,yqz 116,yqz 112,yqz 115,yqz 58]=za5z
  decide
 rintro ⟨_,h,_⟩
 have h2:[yqz 104,yqz 116,yqz 116,yqz 112,yqz 115]=zdkz:=h
 exact absurd h2 (by decide)
theorem zgdz{c:UInt8}(h:auC c.toNat=true):yxz c=true∧slB c=false∧c≠64:=by
 have key: ∀n,n<256→auC n=true→yxz (UInt8.ofNat n)=true∧slB (UInt8.ofNat n)=false∧UInt8.ofNat n≠64:=by decide+kernel
 have h1:=key c.toNat c.toNat_lt h
 simpa using h1
theorem zqCz(s:Int){auth rest:List UInt8}(h: ∀c∈auth,auC c.toNat=true)(hn:auth≠[]):zcvz s (47::47::(auth++47::rest))=cutU s auth (47::rest):=by
 have e:(47::47::(auth++47::rest)).dropWhile slB=auth++47::rest:=by
  rw[List.dropWhile_cons,if_pos (by decide),List.dropWhile_cons,if_pos (by decide)]
  cases auth with
  |nil=>exact absurd rfl hn
  |cons c r=>rw[List.cons_append,List.dropWhile_cons,(zgdz (h c (by simp))).2.1];rfl
 obtain ⟨e1,e2⟩:=jtz (p:=yxz) (c:=47) (r:=rest) (by decide) fun c hc=>(zgdz (h c hc)).1
 unfold zcvz
 rw[e,e1,e2]
 unfold zelz
 rw[if_neg]
 intro h64
 rw[List.contains_iff_mem]at h64
 exact (zgdz (h 64 h64)).2.2 rfl
theorem zcFz{l:List UInt8}(h: ∀c∈l,c≠93): ∀k,zaBz l k=0
 |0=>rfl
 |k+1=>by
  unfold zaBz
  rw[if_neg,zcFz h k]
  intro e
  by_cases hk:k<l.length
  ·rw[List.getD_eq_getElem?_getD,List.getElem?_eq_getElem hk]at e
   exact h _ (List.getElem_mem hk) e
  rw[List.getD_eq_getElem?_getD,List.getElem?_eq_none (by omega)]at e
  exact absurd e (by decide)
theorem zgez{a b:List UInt8}(h: ∀c∈b,c≠93): ∀j,zaBz (a++93::b) (a.length+1+j)=a.length
 |0=>by
  show zaBz (a++93::b) (a.length+1)=_
  unfold zaBz
  rw[if_pos]
  simp[List.getD_eq_getElem?_getD]
 |j+1=>by
  show zaBz (a++93::b) (a.length+1+j+1)=_
  unfold zaBz
  rw[if_neg,zgez h j]
  intro e
  rw[List.getD_eq_getElem?_getD,List.getElem?_append_right (by omega),show a.length+1+j-a.length=j+1 by omega,List.getElem?_cons_succ]at e
  by_cases hk:j<b.length
  ·rw[List.getElem?_eq_getElem hk]at e
   exact h _ (List.getElem_mem hk) e
  rw[List.getElem?_eq_none (by omega)]at e
  exact absurd e (by decide)
theorem zhKz: ∀{l:List UInt8},(∀c∈l,c≠58)→l.findIdx? (fun c=>c==58)=none
 |[],_=>rfl
 |c::r,h=>by
  rw[List.findIdx?_cons,if_neg (by simpa using h c (by simp)),zhKz fun x hx=>h x (List.mem_cons_of_mem _ hx)]
  rfl
theorem zm3z{y:List UInt8}: ∀{l:List UInt8},(∀c∈l,c≠58)→(l++58::y).findIdx? (fun c=>c==58)=some l.length
 |[],_=>by rw[List.nil_append,List.findIdx?_cons,if_pos (by decide)];rfl
 |c::r,h=>by
  rw[List.cons_append,List.findIdx?_cons,if_neg (by simpa using h c (by simp)),zm3z fun x hx=>h x (List.mem_cons_of_mem _ hx)]
  rfl
theorem zqDz{H d:List UInt8}(h: ∀c∈H,c≠58∧c≠93)(hd: ∀c∈d,c≠93):colI H=none∧colI (H++58::d)=some H.length:=by
 constructor
 ·unfold colI
  rw[zcFz (fun c hc=>(h c hc).2),List.drop_zero,zhKz fun c hc=>(h c hc).1]
  rfl
 have hall: ∀c∈H++58::d,c≠93:=fun c hc=>by
  rcases List.mem_append.1 hc with h1|h1
  ·exact (h c h1).2
  rcases List.mem_cons.1 h1 with h2|h2
  ·rw[h2];decide
  exact hd c h2
 unfold colI
 rw[zcFz hall,List.drop_zero,zm3z fun c hc=>(h c hc).1]
 rfl
theorem zr3z{m d:List UInt8}(hd: ∀c∈d,c≠93):colI (91::(m++[93]))=none∧colI (91::(m++[93])++58::d)=some (91::(m++[93])).length:=by
 have e1:91::(m++[93])=(91::m)++93::[]:=by simp
 have e2:91::(m++[93])++58::d=(91::m)++93::(58::d):=by simp
 have hd2: ∀c∈(58::d:List UInt8),c≠93:=fun c hc=>by
  rcases List.mem_cons.1 hc with h2|h2
  ·rw[h2];decide
  exact hd c h2
 constructor
 ·have h1:=zgez (a:=91::m) (b:=[]) (fun c hc=>by cases hc) 0
  have hl:((91::m)++93::([]:List UInt8)).length=(91::m).length+1+0:=by simp
  unfold colI
  rw[e1,hl,h1,List.drop_left]
  rfl
 have h1:=zgez (a:=91::m) (b:=58::d) hd2 (58::d).length
 have hl:((91::m)++93::(58::d)).length=(91::m).length+1+(58::d).length:=by simp;omega
 unfold colI
 rw[e2,hl,h1,List.drop_left]
 rw[List.findIdx?_cons,if_neg (by decide),List.findIdx?_cons,if_pos (by decide)]
 simp
 omega
theorem zr4z{l:List UInt8}(h: ∀c∈l,c≠92):yQz l=l:=by
 unfold yQz
 conv=>rhs;rw[←List.map_id l]
 exact List.map_congr_left fun c hc=>if_neg (h c hc)
theorem zlUz(a:ByteArray):(⟨(toL a).toArray⟩:ByteArray)=a:=z3z rfl
theorem vGz{u:UV}(h:uOk u=true):z4z u.s≠0∧hOk u.h=true∧(1≤u.p∧u.p≤65535)∧ziuz u.a∧(u.q=true∨u.r.size=0)∧okL 2 (toL u.r)=true∧plL 2 (toL u.r)=toL u.r:=by
 unfold uOk at h
 simp only[Bool.and_eq_true,Bool.or_eq_true,decide_eq_true_eq]at h
 obtain ⟨⟨⟨⟨⟨⟨⟨⟨⟨h1,h2⟩,h3⟩,h4⟩,h5⟩,h6⟩,h7⟩,h8⟩,h9⟩,h10⟩:=h
 exact ⟨h1,h2,h3,⟨h4,h6,h7,z3z h8⟩,h5,h9,h10⟩
theorem zs5z{u:UV}(h1:z4z u.s≠0)(h2:hOk u.h=true)(h3:1≤u.p∧u.p≤65535)(h4:ziuz u.a)(h5:u.q=true∨u.r.size=0)(h6:okL 2 (toL u.r)=true)(h7:plL 2 (toL u.r)=toL u.r):uOk u=true:=by
 unfold uOk
 simp only[Bool.and_eq_true,Bool.or_eq_true,decide_eq_true_eq]
 exact ⟨⟨⟨⟨⟨⟨⟨⟨⟨h1,h2⟩,h3⟩,h4.1⟩,h5⟩,h4.2.1⟩,h4.2.2.1⟩,by rw[h4.2.2.2]⟩,h6⟩,h7⟩
theorem zobz{u:UV}(h:uOk u=true):zb5z u.s u.h u.p (xTz u)=u:=by
 obtain ⟨_,_,_,ha,hq,ho,hp⟩:=vGz h
 obtain ⟨hr,hao,hap,had⟩:=ha
 have hax:=ziRz hao
 have hne:toL u.a≠[]:=by
  obtain ⟨r,e⟩:=v5z hr
  rw[show toL u.a=_ from e]
  simp
 have hA:zLz (plB 1 ⟨(yQz (orSl (toL u.a))).toArray⟩)=u.a:=by
  unfold orSl
  rw[if_neg hne,zr4z fun c hc=>(v9z (hax c hc).1).2.2.2,zlUz]
  have e:plB 1 u.a=u.a:=by
   apply z3z
   rw[j3z]
   exact hap
  rw[e,had]
 have hR:plB 2 ⟨(toL u.r).toArray⟩=u.r:=by
  rw[zlUz]
  apply z3z
  rw[j3z]
  exact hp
 have h63: ∀c∈toL u.a,(c !=63)=true:=fun c hc=>by
  rw[bne_iff_ne]
  intro e
  exact (hax c hc).2 (by rw[e];rfl)
 unfold zb5z xTz
 cases hqq:u.q with
 |true=>
  rw[if_pos rfl]
  obtain ⟨e1,e2⟩:=jtz (p:=fun c=>c !=63) (c:=63) (r:=toL u.r) (by decide) h63
  rw[e1,e2]
  simp only[List.drop_succ_cons,List.drop_zero,List.isEmpty_cons,Bool.not_false]
  rw[hA,hR,←hqq]
 |false=>
  rw[if_neg (by decide)]
  obtain ⟨e1,e2⟩:=zajz (p:=fun c=>c !=63) h63
  rw[e1,e2]
  have hr0:u.r=ByteArray.empty:=by
   rcases hq with h1|h1
   ·rw[hqq]at h1;cases h1
   apply z3z
   exact List.eq_nil_of_length_eq_zero (by simpa[toL] using h1)
  simp only[List.drop_nil,List.isEmpty_nil,Bool.not_true]
  have e3:plB 2 ⟨([]:List UInt8).toArray⟩=u.r:=by rw[hr0];rfl
  rw[hA,e3,←hqq]
theorem zgfz{u:UV}(h:uOk u=true)(hb:0<(hTx u.h).size): ∃rest:List UInt8,xTz u=47::rest∧uTx u=jUz u.s++47::47::((toL (hTx u.h)++vkz u.s u.p)++47::rest)∧
  (∀c∈toL (hTx u.h)++vkz u.s u.p,auC c.toNat=true)∧toL (hTx u.h)++vkz u.s u.p≠[]∧(∀c∈uTx u,txC c.toNat=true):=by
 obtain ⟨hs,hh,hp,ha,hq,ho,hpl⟩:=vGz h
 obtain ⟨r,hr⟩:=v5z ha.1
 have hrs: ∃rest:List UInt8,xTz u=47::rest:=by
  unfold xTz
  rw[show toL u.a=_ from hr]
  split
  ·exact ⟨r++63::toL u.r,rfl⟩
  exact ⟨r,rfl⟩
 obtain ⟨rest,hrest⟩:=hrs
 have hx:uTx u=jUz u.s++47::47::((toL (hTx u.h)++vkz u.s u.p)++47::rest):=by
  unfold uTx
  rw[if_pos h,hrest]
  unfold orgL
  simp
 have hau: ∀c∈toL (hTx u.h)++vkz u.s u.p,auC c.toNat=true:=by
  intro c hc
  rcases List.mem_append.1 hc with h1|h1
  ·rcases zgcz hh hb with h2|⟨m,h2,h3⟩
   ·rcases h2 c h1 with h4|h4
    ·exact (zbXz h4).1
    rw[h4];decide
   rw[h2]at h1
   rcases List.mem_cons.1 h1 with h4|h4
   ·rw[h4];decide
   rcases List.mem_append.1 h4 with h5|h5
   ·rcases h3 c h5 with h6|h6
    ·exact (zbXz h6).1
    rw[h6];decide
   rw[List.mem_singleton.1 h5];decide
  unfold vkz at h1
  split at h1
  ·cases h1
  rcases List.mem_cons.1 h1 with h4|h4
  ·rw[h4];decide
  exact (zbXz ((zjZz (by omega)).1 c h4)).1
 have hne:toL (hTx u.h)++vkz u.s u.p≠[]:=by
  intro e
  have h1:=congrArg List.length e
  have h2:(toL (hTx u.h)).length=(hTx u.h).size:=by simp[toL]
  rw[List.length_append,h2,List.length_nil]at h1
  omega
 have hrt: ∀c∈xTz u,txC c.toNat=true:=by
  intro c hc
  unfold xTz at hc
  split at hc
  ·rcases List.mem_append.1 hc with h1|h1
   ·exact (ziRz ha.2.1 c h1).1
   rcases List.mem_cons.1 h1 with h2|h2
   ·rw[h2];decide
   exact zqxz ho c h2
  exact (ziRz ha.2.1 c hc).1
 refine ⟨rest,hrest,hx,hau,hne,?_⟩
 rw[hx]
 intro c hc
 rcases List.mem_append.1 hc with h1|h1
 ·clear hc
  unfold jUz at h1
  split at h1
  ·revert c;decide
  revert c;decide
 rcases List.mem_cons.1 h1 with h2|h2
 ·rw[h2];decide
 rcases List.mem_cons.1 h2 with h3|h3
 ·rw[h3];decide
 rcases List.mem_append.1 h3 with h4|h4
 ·exact au_tx (hau c h4)
 rw[←hrest]at h4
 exact hrt c h4
theorem zqEz{u:UV}(h:uOk u=true)(hb:0<(hTx u.h).size)(hv:rV (znz (hTx u.h))=u.h)(hc:rC (znz (hTx u.h))=0)(hl:(orgL u).length+(xTz u).length≤2000):cutU u.s (toL (hTx u.h)++vkz u.s u.p) (xTz u)=(0,u):=by
 obtain ⟨hs,hh,hp,ha,hq,ho,hpl⟩:=vGz h
 have hhost:zb6z u.s u.p (toL (hTx u.h)) (xTz u)=(0,u):=by
  unfold zb6z
  rw[zlUz,hc,if_pos rfl,hv,zobz h]
  unfold fitU
  rw[if_pos hl]
 have hd5:=zjZz (n:=u.p.toNat) (by omega)
 have hd93: ∀c∈vvz u.p.toNat,c≠93:=fun c hc e=>(zbXz (hd5.1 c hc)).2.2 (by rw[e];rfl)
 have hcol:colI (toL (hTx u.h))=none∧colI (toL (hTx u.h)++58::vvz u.p.toNat)=some (toL (hTx u.h)).length:=by
  rcases zgcz hh hb with h2|⟨m,h2,h3⟩
  ·refine zqDz (fun c hc=> ?_) hd93
   rcases h2 c hc with h4|h4
   ·exact ⟨fun e=>(zbXz h4).2.1 (by rw[e];rfl),fun e=>(zbXz h4).2.2 (by rw[e];rfl)⟩
   rw[h4];decide
  rw[h2]
  exact zr3z hd93
 unfold vkz
 by_cases hd:u.p=z4z u.s
 ·rw[if_pos hd,List.append_nil]
  unfold cutU
  rw[hcol.1]
  simp only
  rw[←hd]
  exact hhost
 rw[if_neg hd]
 have hpn:yYz u.s (vvz u.p.toNat)=u.p:=by
  unfold yYz
  rw[if_neg hd5.2,zpFz (by omega)]
  simp only
  omega
 unfold cutU
 rw[hcol.2]
 simp only
 have e1:(toL (hTx u.h)++58::vvz u.p.toNat).drop ((toL (hTx u.h)).length+1)=vvz u.p.toNat:=by
  rw[List.drop_append,List.drop_of_length_le (by omega)]
  simp
 have e2:(toL (hTx u.h)++58::vvz u.p.toNat).take (toL (hTx u.h)).length=toL (hTx u.h):=List.take_left
 rw[e1,e2,hpn,if_pos hp]
 exact hhost
theorem zocz{u:UV}(h:uOk u=true)(hb:0<(hTx u.h).size)(hv:rV (znz (hTx u.h))=u.h)(hc:rC (znz (hTx u.h))=0)(hl:(orgL u).length+(xTz u).length≤2000):zbwz (uTx u)=(0,u):=by
 obtain ⟨rest,hr,hx,hau,hne,_⟩:=zgfz h hb
 have hcut:=zqEz h hb hv hc hl
 rw[hr]at hcut
 have hs:=(vGz h).1
 have hs12:u.s=1∨u.s=2:=by
  unfold z4z at hs
  by_cases h1:u.s=1
  ·exact .inl h1
  rw[if_neg h1]at hs
  by_cases h2:u.s=2
  ·exact .inr h2
  rw[if_neg h2]at hs;exact absurd rfl hs
 unfold zbwz
 rw[hx]
 have hgo:=zqCz u.s (rest:=rest) hau hne
 rcases hs12 with h1|h1
 ·have e:jUz u.s=zdkz:=by unfold jUz;rw[if_pos h1]
  rw[e,zkMz]
  simp only
  rw[←h1,hgo,hcut]
 have e:jUz u.s=za5z:=by unfold jUz;rw[if_neg (by omega)]
 rw[e,ziSz]
 simp only
 rw[←h1,hgo,hcut]
theorem zkNz{u:UV}(h:uOk u=true):(uTx u).length=(orgL u).length+(xTz u).length:=by
 unfold uTx
 rw[if_pos h,List.length_append]
theorem zqFz{u:UV}(h:uOk u=true)(hb:0<(hTx u.h).size)(hv:rV (znz (hTx u.h))=u.h)(hc:rC (znz (hTx u.h))=0)(hl:(uTx u).length≤2000):yLz (uTx u)=(0,u)∧((uTx u).length≤1997→yLz (32::(uTx u++[35,102]))=(0,u)):=by
 obtain ⟨_,_,_,_,_,htx⟩:=zgfz h hb
 have hr:=zocz h hb hv hc (by rw[←zkNz h];exact hl)
 constructor
 ·unfold yLz
  rw[if_neg (by omega),zqBz htx,hr]
 intro h3
 unfold yLz
 rw[if_neg (by simp only[List.length_cons,List.length_append,List.length_nil];omega),zlTz htx,hr]
def ziTz(r:Int×UV):Prop:=(1≤r.1∧r.1≤5∧r.2=vlz)∨(r.1=0∧uOk r.2=true∧(orgL r.2).length+(xTz r.2).length≤2000)
theorem zaJz{c:Int}(h:1≤c∧c≤5):ziTz (c,vlz):=.inl ⟨h.1,h.2,rfl⟩
theorem zggz{s p:Int}{h:HV}{l:List UInt8}(hs:z4z s≠0)(hh:hOk h=true)(hp:1≤p∧p≤65535)(hl: ∀c r,l=c::r→yxz c=false):uOk (zb5z s h p l)=true:=by
 have hroot:zSz ⟨(yQz (orSl (l.takeWhile fun c=>c !=63))).toArray⟩=true:=by
  cases l with
  |nil=>rfl
  |cons c r=>
   have hc:=hl c r rfl
   have key: ∀n,n<256→yxz (UInt8.ofNat n)=false→n=47∨n=92∨n=63:=by decide+kernel
   have h1:=key c.toNat c.toNat_lt (by simpa using hc)
   by_cases h63:c.toNat=63
   ·have e:c=63:=UInt8.toNat_inj.1 h63
    rw[e,List.takeWhile_cons,if_neg (by decide)]
    rfl
   have e:(c !=63)=true:=by
    rw[bne_iff_ne]
    intro e
    exact h63 (by rw[e];rfl)
   rw[List.takeWhile_cons,e,if_pos rfl]
   have h47:c=47∨c=92:=by
    rcases h1 with h2|h2|h2
    ·exact .inl (UInt8.toNat_inj.1 h2)
    ·exact .inr (UInt8.toNat_inj.1 h2)
    exact absurd h2 h63
   apply zhiz (r:=yQz (r.takeWhile fun c=>c !=63))
   rcases h47 with rfl|rfl<;>rfl
 refine zs5z hs hh hp (znOz hroot) ?_ ?_ ?_
 ·unfold zb5z
  simp only
  cases hm:l.dropWhile fun c=>c !=63 with
  |nil=>exact .inr rfl
  |cons _ _=>exact .inl rfl
 ·show okL 2 (plL 2 _)=true
  exact zl5z 2 (by decide) _
 show plL 2 (plL 2 _)=plL 2 _
 exact zsfz 2 (by decide) _
theorem zghz{s p:Int}{auth rest:List UInt8}(hs:z4z s≠0)(hp:1≤p∧p≤65535)(hl: ∀c r,rest=c::r→yxz c=false):ziTz (zb6z s p auth rest):=by
 unfold zb6z
 split
 ·next hc=>
  have hh:hOk (rV (znz ⟨auth.toArray⟩))=true:=by
   rcases zmyz ⟨auth.toArray⟩with ⟨c,h1,h2,_⟩|h1
   ·rw[h1]at hc
    have:c=0:=hc
    omega
   exact h1.1
  unfold fitU
  split
  ·next h2=>exact .inr ⟨rfl,zggz hs hh hp hl,h2⟩
  exact zaJz (by decide)
 exact zaJz (by decide)
theorem zqGz{s:Int}(hs:z4z s≠0):1≤z4z s∧z4z s≤65535:=by
 unfold z4z at hs⊢
 split
 ·decide
 next h=>
 rw[if_neg h]at hs
 split
 ·decide
 next h2=>rw[if_neg h2]at hs;exact absurd rfl hs
theorem zkOz{s:Int}{t:List UInt8}(hs:z4z s≠0):ziTz (zcvz s t):=by
 have hl: ∀c r,(t.dropWhile slB).dropWhile yxz=c::r→yxz c=false:=by
  intro c r e
  have h:=List.head?_dropWhile_not yxz (t.dropWhile slB)
  rw[e]at h
  simpa using h
 unfold zcvz zelz
 split
 ·exact zaJz (by decide)
 unfold cutU
 split
 ·exact zghz hs (zqGz hs) hl
 split
 ·next h=>exact zghz hs h hl
 exact zaJz (by decide)
theorem zodz(l:List UInt8):ziTz (yLz l):=by
 unfold yLz
 split
 ·exact zaJz (by decide)
 unfold zbwz
 split
 ·exact zaJz (by decide)
 next s t h=>
 apply zkOz
 unfold y3z at h
 split at h
 ·cases h;decide
 split at h
 ·cases h;decide
 cases h
end Go.Proofs.YtgcbaphbiaimoaaGreatDoor
namespace Go.Proofs.YtgcbaphbiaimoaaGreatDoor
open Go.RowKit
def zciz(l:ByteArray):ByteArray:=⟨(l.data.toList.takeWhile fun c=>c !=63).toArray⟩
def jaz(l:ByteArray):ByteArray:=⟨(l.data.toList.dropWhile fun c=>c !=63).toArray⟩
def zaKz(l:ByteArray):ByteArray:=if l.size=0 then ⟨#[47]⟩else l
def zhLz(l:ByteArray):ByteArray:=zLz (plB 1 ⟨(yQz (zaKz (zciz l)).data.toList).toArray⟩)
def zkPz(l:ByteArray):Bool:=decide (0<(jaz l).size)
def zgiz(l:ByteArray):ByteArray:=plB 2 ((jaz l).extract 1 (jaz l).size)
theorem zqHz(c:UInt8):y7z (⟨#[63]⟩:ByteArray).data.toList (c.toNat:Int)= !(c !=63):=by
 have key: ∀n:Nat,n<256→y7z [63] (n:Int)= !(UInt8.ofNat n !=63):=by decide+kernel
 have h:=key c.toNat c.toNat_lt
 simpa using h
theorem zcGz{p:UInt8→Bool}(l:ByteArray):(⟨(l.data.toList.takeWhile p).toArray⟩:ByteArray).size≤l.size∧(⟨(l.data.toList.dropWhile p).toArray⟩:ByteArray).size≤l.size:=by
 have h:l.data.toList.length=l.size:=by simp
 have h1:=congrArg List.length (List.takeWhile_append_dropWhile (p:=p) (l:=l.data.toList))
 rw[List.length_append,h]at h1
 constructor
 ·show (l.data.toList.takeWhile p).toArray.size≤_
  rw[List.size_toArray]
  omega
 show (l.data.toList.dropWhile p).toArray.size≤_
 rw[List.size_toArray]
 omega
theorem zqIz(s k n p:Int)(nm a r:ByteArray)(q:Bool)(x0 x1 x2 x3 x4 x5 x6 x7:Int)(l:ByteArray)(w:World)(hl:l.size≤4194303):
  Calls Tryz.prog 59 #[.agg #[.int .i64 s,.int .i64 k,.string nm,.int .i64 n,.int .i64 x0,.int .i64 x1,.int .i64 x2,.int .i64 x3,.int .i64 x4,.int .i64 x5,.int .i64 x6,.int .i64 x7,.int .i64 p,.string a,.bool q,.string r],.string l] w fun e w'=>e=.returned (.agg (zjz s k nm n x0 x1 x2 x3 x4 x5 x6 x7 p (zhLz l) (zkPz l) (zgiz l)).toArray)∧Below w.heap.size w w':=by
 obtain ⟨hs1,hs2⟩:=zcGz (p:=fun c=>c !=63) l
 have CU:Hid (∀W,CB 54 #[.string l,.string ⟨#[63]⟩] W (.tuple #[.string (zciz l),.string (jaz l)])):=fun W=>znQz (fun c=>c !=63) ⟨#[63]⟩ l W (by decide) zqHz (by omega)
 have hps:(zaKz (zciz l)).size≤4194304:=by
  unfold zaKz
  split
  ·decide
  exact Nat.le_trans hs1 (by omega)
 have CP:Hid (∀W,CB 117 #[.string (zaKz (zciz l))] W (.string (zhLz l))):=fun W=>zpXz _ W hps
 have CR:Hid (∀W,CB 41 #[.string ((jaz l).extract 1 (jaz l).size),.int .i64 2] W (.string (zgiz l))):=fun W=>j5z _ 2 W (by rw[ByteArray.size_extract];have:(jaz l).size≤l.size:=hs2;omega)
 have HQ:Hid (zkPz l=decide (0<(jaz l).size)):=rfl
 have HR0:Hid ((jaz l).size=0→zgiz l=⟨#[]⟩):=fun h=>by
  show plB 2 ((jaz l).extract 1 (jaz l).size)=_
  apply z3z
  rw[j3z]
  have e:toL ((jaz l).extract 1 (jaz l).size)=[]:=List.eq_nil_of_length_eq_zero (by simp[toL];omega)
  rw[e]
  rfl
 have hms:(jaz l).size≤l.size:=hs2
 generalize zhLz l=A at CP⊢
 generalize zgiz l=RR at CR HR0⊢
 generalize jaz l=M at CU CR HQ HR0 hms
 generalize zciz l=PP at CU CP hps
 clear hs1 hs2
 obtain ⟨O,hO⟩: ∃O,O=(w.alloc (.cells #[.int .i64 s,.int .i64 k,.string nm,.int .i64 n,.int .i64 x0,.int .i64 x1,.int .i64 x2,.int .i64 x3,.int .i64 x4,.int .i64 x5,.int .i64 x6,.int .i64 x7,.int .i64 p,.string a,.bool q,.string r] 28)).alloc (.cells #[.int .i64 0,.int .i64 0,.string ⟨#[]⟩,.int .i64 0,.int .i64 0,.int .i64 0,.int .i64 0,.int .i64 0,.int .i64 0,.int .i64 0,.int .i64 0,.int .i64 0,.int .i64 0,.string ⟨#[]⟩,.bool false,.string ⟨#[]⟩] 28):=⟨_,rfl⟩
 have HU:Hid (UAt O w.heap.size (zjz s k nm n x0 x1 x2 x3 x4 x5 x6 x7 p a q r)):=by
  rw[hO]
  exact (UAt.new w _ _).below ((Below.refl _ _).alloc (Nat.le_refl _) _)
 have HV:Hid (UAt O (w.heap.size+1) zZz):=by
  rw[hO]
  have h:=UAt.new (w.alloc (.cells #[.int .i64 s,.int .i64 k,.string nm,.int .i64 n,.int .i64 x0,.int .i64 x1,.int .i64 x2,.int .i64 x3,.int .i64 x4,.int .i64 x5,.int .i64 x6,.int .i64 x7,.int .i64 p,.string a,.bool q,.string r] 28)) #[.int .i64 0,.int .i64 0,.string ⟨#[]⟩,.int .i64 0,.int .i64 0,.int .i64 0,.int .i64 0,.int .i64 0,.int .i64 0,.int .i64 0,.int .i64 0,.int .i64 0,.int .i64 0,.string ⟨#[]⟩,.bool false,.string ⟨#[]⟩] 28
  rw[World.size_alloc]at h
  exact h
 have HB:Hid (Below w.heap.size w O):=by
  rw[hO]
  exact ((Below.refl _ w).alloc (Nat.le_refl _) _).alloc (by simp) _
 go_enter Tryz.func59,Tryz.ntmps59
 go_wp2_with fail
 rw[←hO]
 clear hO
 refine (CU.out _).mono ?_
 rintro e w1 ⟨rfl,b1⟩
 have HU1:Hid (UAt w1 w.heap.size (zjz s k nm n x0 x1 x2 x3 x4 x5 x6 x7 p a q r)):=HU.out.below b1
 have HV1:Hid (UAt w1 (w.heap.size+1) zZz):=HV.out.below b1
 have HB1:Hid (Below w.heap.size w w1):=HB.out.trans (b1.mono HB.out.size)
 clear b1 HU HV HB
 go_upto_if 13 with fail
 go_cut [5] (fun v wx=>v=.string (zaKz PP)∧wx=w1)
 case first=>
  by_cases h0:PP.size=0
  ·have HE:Hid (zaKz PP=⟨#[47]⟩):=by show _=_;unfold zaKz;rw[if_pos h0]
   rw[ztz h0]
   go_wp2_with fail
   go_meet
   exact ⟨by rw[HE.out],rfl⟩
  have HE:Hid (zaKz PP=PP):=by show _=_;unfold zaKz;rw[if_neg h0]
  rw[zwz (show 0<PP.size by omega)]
  go_wp2_with fail
  go_meet
  exact ⟨by rw[HE.out],rfl⟩
 obtain ⟨rfl,rfl⟩:=hcut
 go_wp2_with fail
 refine (CP.out _).mono ?_
 rintro e w2 ⟨rfl,b2⟩
 have HU2:=HU1.out.below b2
 have HV2:Hid (UAt w2 (w.heap.size+1) zZz):=HV1.out.below b2
 have HB2:Hid (Below w.heap.size w w2):=HB1.out.trans (b2.mono HB1.out.size)
 have c13:=HU2.1 13 _ rfl
 have c14:=HU2.1 14 _ rfl
 have c15:=HU2.1 15 _ rfl
 have f13:=HU2.2.1 13
 have f14:=HU2.2.1 14
 have f15:=HU2.2.1 15
 obtain ⟨b,hb⟩: ∃b,(!M.toList.isEmpty)=b:=⟨_,rfl⟩
 have hqb:zkPz l=b:=by
  rw[HQ.out,←hb]
  by_cases h0:M.size=0
  ·rw[ztz h0,decide_eq_false (by omega)];rfl
  rw[zwz (show 0<M.size by omega),decide_eq_true (by omega)];rfl
 have HU3:Hid (UAt (((w2.setCell ⟨w.heap.size,13,none⟩ (.string A)).setCell ⟨w.heap.size,14,none⟩ (.bool b)).setCell ⟨w.heap.size,15,none⟩ (.string ⟨#[]⟩)) w.heap.size (zjz s k nm n x0 x1 x2 x3 x4 x5 x6 x7 p A b ⟨#[]⟩)):=
  ((HU2.set 13 (by simp[zjz]) _).set 14 (by simp[zjz]) _).set 15 (by simp[zjz]) _
 have HV3:Hid (UAt (((w2.setCell ⟨w.heap.size,13,none⟩ (.string A)).setCell ⟨w.heap.size,14,none⟩ (.bool b)).setCell ⟨w.heap.size,15,none⟩ (.string ⟨#[]⟩)) (w.heap.size+1) zZz):=
  ((HV2.out.other (by omega) _ _).other (by omega) _ _).other (by omega) _ _
 have HB3:Hid (Below w.heap.size w (((w2.setCell ⟨w.heap.size,13,none⟩ (.string A)).setCell ⟨w.heap.size,14,none⟩ (.bool b)).setCell ⟨w.heap.size,15,none⟩ (.string ⟨#[]⟩))):=
  ((HB2.out.setCell (p:=⟨w.heap.size,13,none⟩) (Nat.le_refl _) _).setCell (p:=⟨w.heap.size,14,none⟩) (Nat.le_refl _) _).setCell (p:=⟨w.heap.size,15,none⟩) (Nat.le_refl _) _
 clear HU2 b2
 go_upto_if 22 with fail
 generalize (((w2.setCell ⟨w.heap.size,13,none⟩ (.string A)).setCell ⟨w.heap.size,14,none⟩ (.bool b)).setCell ⟨w.heap.size,15,none⟩ (.string ⟨#[]⟩))=w3 at HU3 HV3 HB3⊢
 clear c13 c14 c15 f13 f14 f15 HV2 HB2
 have HQB:Hid (zkPz l=b):=hqb
 clear hqb HQ
 go_cut [0] (fun _ wx=>Hid (UAt wx w.heap.size (zjz s k nm n x0 x1 x2 x3 x4 x5 x6 x7 p A b RR))∧Hid (UAt wx (w.heap.size+1) zZz)∧Hid (Below w.heap.size w wx))
 case first=>
  by_cases h0:M.size=0
  ·have hbf:b=false:=by rw[←hb,ztz h0];rfl
   have hR:=HR0.out h0
   subst hbf
   clear hb
   go_wp2_with fail
   go_meet
   exact ⟨by rw[hR];exact HU3,HV3,HB3⟩
  have hbt:b=true:=by rw[←hb,zwz (show 0<M.size by omega)];rfl
  subst hbt
  clear hb
  have hM:1≤M.size:=by omega
  go_wp2_with fail
  refine (CR.out _).mono ?_
  rintro e w4 ⟨rfl,b4⟩
  have HU4:=HU3.out.below b4
  have HV4:=HV3.out.below b4
  have HB4:=HB3.out.trans (b4.mono HB3.out.size)
  have c15:=HU4.1 15 _ rfl
  have f15:=HU4.2.1 15
  have HU5:Hid (UAt (w4.setCell ⟨w.heap.size,15,none⟩ (.string RR)) w.heap.size (zjz s k nm n x0 x1 x2 x3 x4 x5 x6 x7 p A true RR)):=HU4.set 15 (by simp[zjz]) _
  have HV5:Hid (UAt (w4.setCell ⟨w.heap.size,15,none⟩ (.string RR)) (w.heap.size+1) zZz):=HV4.other (by omega) _ _
  have HB5:Hid (Below w.heap.size w (w4.setCell ⟨w.heap.size,15,none⟩ (.string RR))):=HB4.setCell (p:=⟨w.heap.size,15,none⟩) (Nat.le_refl _) _
  clear b4 HU4 HV4 HB4
  go_wp2_with fail
  go_meet
  exact ⟨HU5,HV5,HB5⟩
 obtain ⟨HU,HV,HB⟩:=hcut
 clear HU3 HV3 HB3 CR CP CU HU1 HV1 HB1 HR0 hb
 go_wp2_with (first|(refine xxz HU.out rfl rfl _ rfl rfl ?_)|(refine y0z HV.out rfl (us:=zjz s k nm n x0 x1 x2 x3 x4 x5 x6 x7 p A b RR) rfl (zQz ..) rfl _ _ rfl rfl rfl ?_;intro w9 HU9 HM9))
 refine bodyPost_ret (yRz rfl _ _ (w.heap.size+1) _ rfl rfl HU9) rfl ⟨by rw[HQB.out],HM9.2 _ _ (Nat.le_succ _) HB.out⟩
end Go.Proofs.YtgcbaphbiaimoaaGreatDoor
