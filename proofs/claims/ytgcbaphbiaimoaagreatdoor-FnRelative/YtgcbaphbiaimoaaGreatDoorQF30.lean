/- UrlErr, UrlBack, UrlTail. -/
import Derived.Test.YtgcbaphbiaimoaaGreatDoorQF28
import Derived.LaidEql
import Derived.Stop.Asserts
import Derived.RowKitTokens
set_option maxHeartbeats 4000000
set_option maxRecDepth 100000
namespace Go.Proofs.YtgcbaphbiaimoaaGreatDoor
open Go.Value renaming int->I,string->L,tuple->G,bool->F,pointer->E,agg->D,iface->Q
open Go.IntKind renaming i64->J
open Go.Obj renaming cells->Z
open _root_.Bool renaming and_eq_true->zl,or_eq_true->z0
open _root_.List renaming cons_append->zs,dropWhile_cons->zc,drop_zero->zv,eq_nil_of_length_eq_zero->zo,filter_eq_self->zw,findIdx?_cons->zk,getD_eq_getElem?_getD->zg,getElem?_eq_getElem->zq,getElem?_eq_none->zu,getElem_mem->zy,length_append->zn,length_nil->z1,mem_append->ze,mem_cons->za,mem_cons_of_mem->zh,nil_append->zz,not_mem_nil->zm,size_toArray->zx,takeWhile_cons->zi
open _root_.Nat renaming le_refl->zp
open _root_.UInt8 renaming ofNat->zf,toNat_inj->zt
open _root_.Go.World renaming block_lt_of_cell?->zr,cell?_alloc_lt->zd,frozen?_alloc_old->zj
open _root_.Go.Proofs.Tryz
open _root_.Go.Proofs.YtgcbaphbiaimoaaGreatDoor.Tryz
section
open Go.RowKit Go.Extern.Stop Go.Stop Go.Extern
theorem Hj(t:Value)(w:World):Calls prog 47 #[.nilIface,t] w fun e w'=>e=.returned (F false)/\w=w':=by
 go_enter func47,ntmps47;go_wp2;go_ret;exact ⟨rfl,rfl⟩
theorem G6(t:Addr)(w:World):(ReflectliteValue.unpack (Q 71 (E (some t)))).run prog w
  =.ok (D #[E (some ⟨14,71,none⟩),E (some ⟨w.heap.size,0,none⟩),.int .u64 150]) (w.alloc (Z #[E (some t)] 71)):=kr
theorem Ad(a:Addr)(w:World):(ReflectliteValue.methodAny (ReflectliteValue.valueError "reflectlite.Value.Type" 0) (fun t _ _ _=>ReflectliteType.toType t) #[D #[E (some ⟨14,71,none⟩),E (some a),.int .u64 150]]).run prog w
  =.ok (Q 159 (D #[E (some ⟨14,71,none⟩)])) w:=kr
theorem GM(h:Value)(w:World):(Go.method 392 159 (D #[h]) "Kind").run prog w=.ok (329,h) w:=kr
theorem Ae(w:World):((ReflectliteType.abiMethod fun t=>(fun a:Nat=>Value.int IntKind.u8 (a:Int))<$>Rtype.kind t) #[E (some ⟨14,71,none⟩)]).run prog w=.ok (.int .u8 22) w:=kr
theorem Af(w:World):((ReflectliteType.abiMethod fun t=>(fun a:Nat=>Value.int IntKind.u8 (a:Int))<$>Rtype.kind t) #[E (some ⟨14,69,none⟩)]).run prog w=.ok (.int .u8 25) w:=kr
theorem rlm(z:Sem Value)(f:TypeId->Addr->Nat->Nat->Sem Value)(a:Addr)(w:World):(ReflectliteValue.method z f #[D #[E (some ⟨14,71,none⟩),E (some a),.int .u64 150]]).run prog w=(f 71 a 150 22).run prog w:=kr
theorem G7(a p:Addr)(W:World)(ha:W.cell? a=some (E (some p))):
  (ReflectliteValue.method (ReflectliteValue.valueError "reflectlite.Value.IsNil" 0) ReflectliteValue.isNil #[D #[E (some ⟨14,71,none⟩),E (some a),.int .u64 150]]).run prog W=.ok (F false) W:=by
 rw[rlm];simp[ReflectliteValue.isNil,loadVar,isAgg,underlying,underlying71,ha,Result.andThen]
theorem GN(h:Value)(w:World):(Go.method 392 159 (D #[h]) "Elem").run prog w=.ok (344,D #[h]) w:=kr
theorem GO(h:Value)(w:World):(Go.method 392 159 (D #[h]) "Implements").run prog w=.ok (345,D #[h]) w:=kr
theorem AI(h:Value)(w:World):(Go.method 392 159 (D #[h]) "AssignableTo").run prog w=.ok (342,D #[h]) w:=kr
theorem Ag(w:World):(ReflectliteType.method ReflectliteType.elem #[D #[E (some ⟨14,71,none⟩)]]).run prog w=.ok (Q 159 (D #[E (some ⟨14,69,none⟩)])) w:=kr
theorem Ah(w:World):(ReflectliteType.relation "Implements" ReflectliteType.implements_ #[D #[E (some ⟨14,69,none⟩)],Q 159 (D #[E (some ⟨14,65,none⟩)])]).run prog w=.ok (F true) w:=kr
theorem VX(v:Value)(w:World):(ReflectliteType.typeOf #[Q 69 v]).run prog w=.ok (Q 159 (D #[E (some ⟨14,69,none⟩)])) w:=kr
theorem VY(w:World):(ReflectliteType.relation "AssignableTo" ReflectliteType.assignableTo #[D #[E (some ⟨14,69,none⟩)],Q 159 (D #[E (some ⟨14,69,none⟩)])]).run prog w=.ok (F true) w:=kr
theorem G8(c:Int)(w:World):(ReflectliteValue.unpack (Q 69 (D #[I J c]))).run prog w
  =.ok (D #[E (some ⟨14,69,none⟩),E (some ⟨w.heap.size,0,none⟩),.int .u64 153]) (w.alloc (Z #[I J c] 69)):=kr
theorem VZ(w:World):(Rtype.elem? 71).run prog w=.ok (some 69) w:=kr
theorem Hk(p:Addr)(w:World):(ReflectliteValue.mk 69 p ReflectliteValue.flagAddr).run prog w=.ok (D #[E (some ⟨14,69,none⟩),E (some p),.int .u64 409]) w:=kr
theorem Ai(a p:Addr)(W:World)(ha:W.cell? a=some (E (some p))):
  (ReflectliteValue.method (ReflectliteValue.valueError "reflectlite.Value.Elem" 0) ReflectliteValue.elem #[D #[E (some ⟨14,71,none⟩),E (some a),.int .u64 150]]).run prog W
   =.ok (D #[E (some ⟨14,69,none⟩),E (some p),.int .u64 409]) W:=by
 rw[rlm];simp[ReflectliteValue.elem,loadVar,isAgg,underlying,underlying71,ha,Result.andThen,VZ,Hk]
theorem rls(a b:Addr)(w:World):(ReflectliteValue.set #[D #[E (some ⟨14,69,none⟩),E (some a),.int .u64 409],D #[E (some ⟨14,69,none⟩),E (some b),.int .u64 153]]).run prog w
   =(do let v<-loadVar 69 b;storeVar 69 a v;pure (G #[]):Sem Value).run prog w:=kr
theorem En(b:Nat)(c:Int)(W:World)(hb:W.cell? ⟨b,0,none⟩=some (I J c)):(loadVar 69 ⟨b,0,none⟩).run prog W=.ok (D #[I J c]) W:=by
 have hr:=run_loadVar_mid (P:=prog) W b 0 69 [I J c] _ (fun j v hv=>by
  match j,hv with
  |0,hv=>cases hv;exact hb) underlying69 rfl kr
 exact hr
theorem Hl(t b:Nat)(c:Int)(old:Value)(W:World)(hb:W.cell? ⟨b,0,none⟩=some (I J c))(ht:W.cell? ⟨t,0,none⟩=some old)(hf:W.frozen? ⟨t,0,none⟩=false):
  (ReflectliteValue.set #[D #[E (some ⟨14,69,none⟩),E (some ⟨t,0,none⟩),.int .u64 409],D #[E (some ⟨14,69,none⟩),E (some ⟨b,0,none⟩),.int .u64 153]]).run prog W
   =.ok (G #[]) (W.setCell ⟨t,0,none⟩ (I J c)):=by
 rw[rls];simp[En b c W hb,Result.andThen,storeVar,Value.cells,storeCells,Addr.add];rw[run_store prog W ⟨t,0,none⟩ _ _ (by rfl)];simp[ht,hf]
theorem Hm(c:Int)(t:Nat)(old:Value)(w:World)(hg:LJ w)(ht0:w.cell? ⟨t,0,none⟩=some old)(hf0:w.frozen? ⟨t,0,none⟩=false):Calls prog 47 #[Q 69 (D #[I J c]),Q 71 (E (some ⟨t,0,none⟩))] w fun ev w'=>ev=.returned (F true)/\w'=((((w.alloc (Z #[E (some ⟨t,0,none⟩)] 71)).alloc (Z #[E (some ⟨14,71,none⟩),E (some ⟨w.heap.size,0,none⟩),.int .u64 150] 122)).alloc (Z #[E (some ⟨14,71,none⟩),E (some ⟨w.heap.size,0,none⟩),.int .u64 150] 122)).alloc (Z #[I J c] 69)).setCell ⟨t,0,none⟩ (I J c):=by
 have h6:= @run_callFunc_extern prog 105 _ (fun args=>ReflectliteValue.unpack (args.getD 0 (G #[]))) func105 kr kr kr kr;have h7:= @run_callFunc_extern prog 106 _ (ReflectliteValue.methodAny (ReflectliteValue.valueError "reflectlite.Value.Type" 0) (fun t _ _ _=>ReflectliteType.toType t)) func106 kr kr kr kr;have h8:= @run_callFunc_extern prog 107 _ (ReflectliteValue.method (ReflectliteValue.valueError "reflectlite.Value.IsNil" 0) ReflectliteValue.isNil) func107 kr kr kr kr;have h27:= @run_callFunc_extern prog 329 _ (ReflectliteType.abiMethod fun t=>do pure (.int .u8 (<-Rtype.kind t))) func329 kr kr kr kr;have h37:= @run_callFunc_extern prog 344 _ (ReflectliteType.method ReflectliteType.elem) func344 kr kr kr kr;have h38:= @run_callFunc_extern prog 345 _ (ReflectliteType.relation "Implements" ReflectliteType.implements_) func345 kr kr kr kr;have h10:= @run_callFunc_extern prog 160 _ ReflectliteType.typeOf func160 kr kr kr kr;have h35:= @run_callFunc_extern prog 342 _ (ReflectliteType.relation "AssignableTo" ReflectliteType.assignableTo) func342 kr kr kr kr;have h11:= @run_callFunc_extern prog 161 _ (ReflectliteValue.method (ReflectliteValue.valueError "reflectlite.Value.Elem" 0) ReflectliteValue.elem) func161 kr kr kr kr;have h12:= @run_callFunc_extern prog 162 _ ReflectliteValue.set func162 kr kr kr kr;have tO:=VX;have mA:=AI;have a25:=VY;have v25:=G8;have f6:=G6;have f7:=Ad;have mK:=GM;have mE:=GN;have mI:=GO;have k27:=Ae;have k25:=Af;have e27:=Ag;have i25:=Ah;have n8:=G7 ⟨w.heap.size,0,none⟩ ⟨t,0,none⟩ ((w.alloc (Z #[E (some ⟨t,0,none⟩)] 71)).alloc (Z #[E (some ⟨14,71,none⟩),E (some ⟨w.heap.size,0,none⟩),.int .u64 150] 122)) j2;have hlt:0<w.heap.size:=zr w ⟨0,0,none⟩ hg;have hg2:((w.alloc (Z #[E (some ⟨t,0,none⟩)] 71)).alloc (Z #[E (some ⟨14,71,none⟩),E (some ⟨w.heap.size,0,none⟩),.int .u64 150] 122)).cell? ⟨0,0,none⟩=some (Q 159 (D #[E (some ⟨14,65,none⟩)])):=by
  rw[zd _ _ ⟨0,0,none⟩ (Nat.lt_of_lt_of_le hlt j2),zd _ _ ⟨0,0,none⟩ hlt];exact hg
 have htl:t<w.heap.size:=zr w ⟨t,0,none⟩ ht0;have el:=Ai ⟨w.heap.size,0,none⟩ ⟨t,0,none⟩ (((w.alloc (Z #[E (some ⟨t,0,none⟩)] 71)).alloc (Z #[E (some ⟨14,71,none⟩),E (some ⟨w.heap.size,0,none⟩),.int .u64 150] 122)).alloc (Z #[E (some ⟨14,71,none⟩),E (some ⟨w.heap.size,0,none⟩),.int .u64 150] 122)) (by rw[zd _ _ ⟨w.heap.size,0,none⟩ (by simp;omega)];simp);have st:=Hl t (w.heap.size+1+1+1) c old ((((w.alloc (Z #[E (some ⟨t,0,none⟩)] 71)).alloc (Z #[E (some ⟨14,71,none⟩),E (some ⟨w.heap.size,0,none⟩),.int .u64 150] 122)).alloc (Z #[E (some ⟨14,71,none⟩),E (some ⟨w.heap.size,0,none⟩),.int .u64 150] 122)).alloc (Z #[I J c] 69))
  (by rw[World.cell?_alloc_at _ _ _ _ j2];rfl)
  (by rw[zd _ _ ⟨t,0,none⟩ (by simp;omega),zd _ _ ⟨t,0,none⟩ (by simp;omega),zd _ _ ⟨t,0,none⟩ (by simp;omega),zd _ _ ⟨t,0,none⟩ htl];exact ht0)
  (by rw[zj _ _ ⟨t,0,none⟩ (by simp;omega),zj _ _ ⟨t,0,none⟩ (by simp;omega),zj _ _ ⟨t,0,none⟩ (by simp;omega),zj _ _ ⟨t,0,none⟩ (Nat.ne_of_lt htl)];exact hf0)
 unfold LJ at hg;go_enter func47,ntmps47;go_wp2;refine wp_loop_rounds 1 ?_;rw[rounds_succ];go_wp2;go_ret;exact ⟨rfl,rfl⟩
end
section
open Go.RowKit
set_option linter.unusedVariables false
def txC(n:Nat):Bool:=decide (n≠35/\n≠9/\n≠10/\n≠13/\n≠32/\n≠92)
def auC(n:Nat):Bool:=txC n&&decide (n≠47/\n≠63/\n≠64)
theorem NC: ∀n,n<256->(dV 2 n=true∨n=37∨0<=bE n)->txC n=true:=by decide+kernel
theorem Eo: ∀n,n<256->dV 1 n=true->dV 2 n=true/\n≠63:=by decide+kernel
theorem Hn: ∀n,n<256->0<=bE n->n≠63:=by decide+kernel
theorem Hp: ∀n,n<256->gS (zf n)=true->auC n=true/\n≠58/\n≠93:=by decide+kernel
theorem tB{c:UInt8}(h:gS c=true):auC c.toNat=true/\c.toNat≠58/\c.toNat≠93:=Hp c.toNat c.toNat_lt (by simpa using h)
theorem au_tx{n:Nat}(h:auC n=true):txC n=true:=by
 unfold auC at h;rw[zl]at h;exact h.1
theorem Aj{l:List UInt8}(h:okL 2 l=true): ∀c∈l,txC c.toNat=true:=fun c hc=>by
 refine NC c.toNat c.toNat_lt ?_
 rcases QR 2 l h c hc with h1|h1|h1
 .exact .inl h1
 .exact .inr (.inl (by rw[h1];rfl))
 exact .inr (.inr h1)
theorem BH{l:List UInt8}(h:okL 1 l=true): ∀c∈l,txC c.toNat=true/\c.toNat≠63:=fun c hc=>by
 rcases QR 1 l h c hc with h1|h1|h1
 .have h2:=Eo c.toNat c.toNat_lt h1
  exact ⟨NC c.toNat c.toNat_lt (.inl h2.1),h2.2⟩
 .rw[h1];decide
 exact ⟨NC c.toNat c.toNat_lt (.inr (.inr h1)),Hn c.toNat c.toNat_lt h1⟩
theorem BI: ∀i,i<16->gS (hxU i)=true:=by decide+kernel
theorem Ak{n:Nat}(h:n<65536): ∀c∈bQ n,gS c=true:=by
 intro c hc;unfold bQ at hc;split at hc
 .simp only[za,zm,or_false]at hc
  rw[hc];exact BI _ om
 split at hc
 .simp only[za,zm,or_false]at hc
  rcases hc with e|e<;>rw[e]<;>exact BI _ om
 split at hc
 .simp only[za,zm,or_false]at hc
  rcases hc with e|e|e<;>rw[e]<;>exact BI _ om
 simp only[za,zm,or_false]at hc
 rcases hc with e|e|e|e<;>rw[e]<;>exact BI _ om
theorem Al(b:UInt8): ∀{fs:List (List UInt8)} {c:UInt8},c∈jl b fs->c=b∨ ∃x∈fs,c∈x
 |[],c,h=>by simp[jl]at h
 |[x],c,h=> .inr ⟨x,by simp,by simpa[jl] using h⟩
 |x::y::r,c,h=>by
  rw[jl]at h
  rcases ze.1 h with h1|h1
  .exact .inr ⟨x,by simp,h1⟩
  rcases za.1 h1 with h2|h2
  .exact .inl h2
  rcases Al b h2 with h3|⟨z,hz,h3⟩
  .exact .inl h3
  exact .inr ⟨z,zh _ hz,h3⟩
theorem WA{gs:List Nat}(h: ∀g∈gs,g<65536): ∀c∈gtL gs,gS c=true∨c=58:=by
 intro c hc
 rcases Al 58 hc with h1|⟨x,hx,h1⟩
 .exact .inr h1
 obtain ⟨g,hg,rfl⟩:=List.mem_map.1 hx;exact .inl (Ak (h g hg) c h1)
theorem Ep{w:List Nat}(h: ∀g∈w,g<65536)(f e:Nat): ∀c∈AB w f e,gS c=true∨c=58:=by
 intro c hc;unfold AB at hc;split at hc
 .exact WA h c hc
 rcases ze.1 hc with h1|h1
 .exact WA (fun g hg=>h g (List.mem_of_mem_take hg)) c h1
 rcases za.1 h1 with h2|h2
 .exact .inr h2
 rcases za.1 h2 with h3|h3
 .exact .inr h3
 exact WA (fun g hg=>h g (List.mem_of_mem_drop hg)) c h3
theorem Am(z:List Int): ∀c∈lC z,gS c=true∨c=58:=by
 intro c hc;unfold lC at hc;split at hc
 .next h=>
  refine Ep (fun g hg=> ?_) _ _ c hc;obtain ⟨x,hx,rfl⟩:=List.mem_map.1 hg
  have:=LS h x hx
  omega
 cases hc
theorem FE{h:HV}(ho:hOk h=true)(hn:0<(hTx h).size):(∀c∈toL (hTx h),gS c=true∨c=46)∨(∃m,toL (hTx h)=91::(m++[93])/\ ∀c∈m,gS c=true∨c=58):=by
 unfold hTx;rw[if_pos ho];unfold hOk at ho
 by_cases h1:h.k=1
 .rw[if_pos h1]at ho⊢
  simp only[zl,decide_eq_true_eq]at ho;obtain ⟨ls,_,_,_,hl,hj,_⟩:=sV ho.1.1.1;refine .inl ?_;show ∀c∈h.s.data.toList,_;rw[hj];exact EA fun a ha=>(hl a ha).1
 rw[if_neg h1]at ho⊢
 by_cases h2:h.k=2
 .rw[if_pos h2]at ho⊢
  simp only[zl,decide_eq_true_eq]at ho;have hnm:cV (gP h.n)=some (gP h.n).data.toList:=QF om;obtain ⟨ls,_,_,_,hl,hj,_⟩:=sV hnm;refine .inl ?_;show ∀c∈(gP h.n).data.toList,_;rw[hj];exact EA fun a ha=>(hl a ha).1
 rw[if_neg h2];exact .inr ⟨lC h.z,rfl,Am h.z⟩
theorem nO{p:UInt8->Bool}{l:List UInt8}(h: ∀c∈l,p c=false):l.dropWhile p=l:=by
 cases l with
 |nil=>rfl
 |cons c r=>rw[zc,h c j2];rfl
theorem oW{p:UInt8->Bool}: ∀{l:List UInt8},(∀c∈l,p c=true)->l.takeWhile p=l/\l.dropWhile p=[]
 |[],_=>⟨rfl,rfl⟩
 |c::r,h=>by
  obtain ⟨h1,h2⟩:=oW (p:=p) (l:=r) fun x hx=>h x (zh _ hx)
  rw[zi,zc,h c j2,if_pos rfl,if_pos rfl,h1,h2];exact ⟨rfl,rfl⟩
theorem mF{p:UInt8->Bool}{c:UInt8}{r:List UInt8}(hc:p c=false): ∀{l:List UInt8},(∀x∈l,p x=true)->(l++c::r).takeWhile p=l/\(l++c::r).dropWhile p=c::r
 |[],_=>by
  rw[zz,zi,zc,hc];exact ⟨rfl,rfl⟩
 |x::l,h=>by
  obtain ⟨h1,h2⟩:=mF (p:=p) (r:=r) hc (l:=l) fun y hy=>h y (zh _ hy)
  rw[zs,zi,zc,h x j2,if_pos rfl,if_pos rfl,h1,h2];exact ⟨rfl,rfl⟩
theorem jO{c:UInt8}(h:txC c.toNat=true):kN.contains c=false/\(c !=35)=true/\(c !=9&&c !=10&&c !=13)=true/\c≠92:=by
 have key: ∀n,n<256->txC n=true->kN.contains (zf n)=false/\(zf n !=35)=true/\(zf n !=9&&zf n !=10&&zf n !=13)=true/\zf n≠92:=by decide+kernel
 have h1:=key c.toNat c.toNat_lt h;simpa using h1
theorem FF{l:List UInt8}(h: ∀c∈l,txC c.toNat=true):eC l=l:=by
 have e:Lib.trimS l kN=l:=by
  unfold Lib.trimS Lib.trimLeftS Lib.trimRightS;rw[nO (l:=l.reverse) fun c hc=>(jO (h c (List.mem_reverse.1 hc))).1,List.reverse_reverse,nO fun c hc=>(jO (h c hc)).1]
 unfold eC;rw[e,(oW fun c hc=>(jO (h c hc)).2.1).1];exact zw.2 fun c hc=>(jO (h c hc)).2.2.1
theorem WB{l:List UInt8}(h: ∀c∈l,txC c.toNat=true):eC (32::(l++[35,102]))=l:=by
 have e:Lib.trimS (32::(l++[35,102])) kN=l++[35,102]:=by
  unfold Lib.trimS Lib.trimLeftS Lib.trimRightS;have e1:(32::(l++[35,102])).reverse=102::(35::(l.reverse++[32])):=by simp
  have e2:kN.contains 102=false:=de;have e3:kN.contains 32=true:=de;rw[e1,zc,e2];have e4:(102::35::(l.reverse++[32])).reverse=32::(l++[35,102]):=by simp
  rw[if_neg de,e4,zc,e3,if_pos rfl,nO];intro c hc
  rcases ze.1 hc with h1|h1
  .exact (jO (h c h1)).1
  simp only[za,zm,or_false]at h1
  rcases h1 with rfl|rfl<;>decide
 unfold eC;rw[e,(mF (p:=fun c=>c !=35) (c:=35) (r:=[102]) de fun c hc=>(jO (h c hc)).2.1).1];exact zw.2 fun c hc=>(jO (h c hc)).2.2.1
theorem SR(Y:List UInt8):eT (pL++47::47::Y)=some (1,47::47::Y):=by
 unfold eT;rw[if_pos]
 .rfl
 refine ⟨by simp[pL],?_,rfl,rfl⟩;show [dG 104,dG 116,dG 116,dG 112,dG 58]=pL
 decide
theorem ND(Y:List UInt8):eT (kE++47::47::Y)=some (2,47::47::Y):=by
 unfold eT;rw[if_neg,if_pos]
 .rfl
 .refine ⟨by simp[kE],?_,rfl,rfl⟩
  show [dG 104,dG 116,dG 116,dG 112,dG 115,dG 58]=kE
  decide
 rintro ⟨_,h,_⟩;have h2:[dG 104,dG 116,dG 116,dG 112,dG 115]=pL:=h;exact absurd h2 de
theorem FG{c:UInt8}(h:auC c.toNat=true):dJ c=true/\slB c=false/\c≠64:=by
 have key: ∀n,n<256->auC n=true->dJ (zf n)=true/\slB (zf n)=false/\zf n≠64:=by decide+kernel
 have h1:=key c.toNat c.toNat_lt h;simpa using h1
theorem An(s:Int){auth rest:List UInt8}(h: ∀c∈auth,auC c.toNat=true)(hn:auth≠[]):uP s (47::47::(auth++47::rest))=MJ s auth (47::rest):=by
 have e:(47::47::(auth++47::rest)).dropWhile slB=auth++47::rest:=by
  rw[zc,if_pos de,zc,if_pos de]
  cases auth with
  |nil=>exact absurd rfl hn
  |cons c r=>rw[zs,zc,(FG (h c j2)).2.1];rfl
 obtain ⟨e1,e2⟩:=mF (p:=dJ) (c:=47) (r:=rest) de fun c hc=>(FG (h c hc)).1
 unfold uP;rw[e,e1,e2];unfold zN;rw[if_neg];intro h64;rw[List.contains_iff_mem]at h64;exact (FG (h 64 h64)).2.2 rfl
theorem uZ{l:List UInt8}(h: ∀c∈l,c≠93): ∀k,pM l k=0
 |0=>rfl
 |k+1=>by
  unfold pM;rw[if_neg,uZ h k];intro e
  by_cases hk:k<l.length
  .rw[zg,zq hk]at e
   exact h _ (zy hk) e
  rw[zg,zu om]at e;exact absurd e de
theorem FH{a b:List UInt8}(h: ∀c∈b,c≠93): ∀j,pM (a++93::b) (a.length+1+j)=a.length
 |0=>by
  show pM (a++93::b) (a.length+1)=_;unfold pM;rw[if_pos];simp[zg]
 |j+1=>by
  show pM (a++93::b) (a.length+1+j+1)=_;unfold pM;rw[if_neg,FH h j];intro e;rw[zg,List.getElem?_append_right om,show a.length+1+j-a.length=j+1 by omega,List.getElem?_cons_succ]at e
  by_cases hk:j<b.length
  .rw[zq hk]at e
   exact h _ (zy hk) e
  rw[zu om]at e;exact absurd e de
theorem KH: ∀{l:List UInt8},(∀c∈l,c≠58)->l.findIdx? (fun c=>c==58)=none
 |[],_=>rfl
 |c::r,h=>by
  rw[zk,if_neg (by simpa using h c j2),KH fun x hx=>h x (zh _ hx)];rfl
theorem YW{y:List UInt8}: ∀{l:List UInt8},(∀c∈l,c≠58)->(l++58::y).findIdx? (fun c=>c==58)=some l.length
 |[],_=>by rw[zz,zk,if_pos de];rfl
 |c::r,h=>by
  rw[zs,zk,if_neg (by simpa using h c j2),YW fun x hx=>h x (zh _ hx)];rfl
theorem Ao{H d:List UInt8}(h: ∀c∈H,c≠58/\c≠93)(hd: ∀c∈d,c≠93):yN H=none/\yN (H++58::d)=some H.length:=by
 constructor
 .unfold yN
  rw[uZ (fun c hc=>(h c hc).2),zv,KH fun c hc=>(h c hc).1];rfl
 have hall: ∀c∈H++58::d,c≠93:=fun c hc=>by
  rcases ze.1 hc with h1|h1
  .exact (h c h1).2
  rcases za.1 h1 with h2|h2
  .rw[h2];decide
  exact hd c h2
 unfold yN;rw[uZ hall,zv,YW fun c hc=>(h c hc).1];rfl
theorem Er{m d:List UInt8}(hd: ∀c∈d,c≠93):yN (91::(m++[93]))=none/\yN (91::(m++[93])++58::d)=some (91::(m++[93])).length:=by
 have e1:91::(m++[93])=(91::m)++93::[]:=by simp
 have e2:91::(m++[93])++58::d=(91::m)++93::(58::d):=by simp
 have hd2: ∀c∈(58::d:List UInt8),c≠93:=fun c hc=>by
  rcases za.1 hc with h2|h2
  .rw[h2];decide
  exact hd c h2
 constructor
 .have h1:=FH (a:=91::m) (b:=[]) (fun c hc=>by cases hc) 0
  have hl:((91::m)++93::([]:List UInt8)).length=(91::m).length+1+0:=by simp
  unfold yN;rw[e1,hl,h1,List.drop_left];rfl
 have h1:=FH (a:=91::m) (b:=58::d) hd2 (58::d).length;have hl:((91::m)++93::(58::d)).length=(91::m).length+1+(58::d).length:=by simp;omega
 unfold yN;rw[e2,hl,h1,List.drop_left];rw[zk,if_neg de,zk,if_pos de];simp;omega
theorem Es{l:List UInt8}(h: ∀c∈l,c≠92):eA l=l:=by
 unfold eA
 conv=>rhs;rw[<-List.map_id l]
 exact List.map_congr_left fun c hc=>if_neg (h c hc)
theorem WC(a:ByteArray):(⟨(toL a).toArray⟩:ByteArray)=a:=bX rfl
theorem eL{u:UV}(h:uOk u=true):cJ u.s≠0/\hOk u.h=true/\(1<=u.p/\u.p<=65535)/\MH u.a/\(u.q=true∨u.r.size=0)/\okL 2 (toL u.r)=true/\plL 2 (toL u.r)=toL u.r:=by
 unfold uOk at h;simp only[zl,z0,decide_eq_true_eq]at h;obtain ⟨⟨⟨⟨⟨⟨⟨⟨⟨h1,h2⟩,h3⟩,h4⟩,h5⟩,h6⟩,h7⟩,h8⟩,h9⟩,h10⟩:=h;exact ⟨h1,h2,h3,⟨h4,h6,h7,bX h8⟩,h5,h9,h10⟩
theorem NE{u:UV}(h1:cJ u.s≠0)(h2:hOk u.h=true)(h3:1<=u.p/\u.p<=65535)(h4:MH u.a)(h5:u.q=true∨u.r.size=0)(h6:okL 2 (toL u.r)=true)(h7:plL 2 (toL u.r)=toL u.r):uOk u=true:=by
 unfold uOk;simp only[zl,z0,decide_eq_true_eq];exact ⟨⟨⟨⟨⟨⟨⟨⟨⟨h1,h2⟩,h3⟩,h4.1⟩,h5⟩,h4.2.1⟩,h4.2.2.1⟩,by rw[h4.2.2.2]⟩,h6⟩,h7⟩
theorem KI{u:UV}(h:uOk u=true):oE u.s u.h u.p (dD u)=u:=by
 obtain ⟨_,_,_,ha,hq,ho,hp⟩:=eL h;obtain ⟨hr,hao,hap,had⟩:=ha;have hax:=BH hao;have hne:toL u.a≠[]:=by
  obtain ⟨r,e⟩:=iR hr;rw[show toL u.a=_ from e];simp
 have hA:cE (plB 1 ⟨(eA (yO (toL u.a))).toArray⟩)=u.a:=by
  unfold yO;rw[if_neg hne,Es fun c hc=>(jO (hax c hc).1).2.2.2,WC];have e:plB 1 u.a=u.a:=by
   apply bX;rw[oD];exact hap
  rw[e,had]
 have hR:plB 2 ⟨(toL u.r).toArray⟩=u.r:=by
  rw[WC];apply bX;rw[oD];exact hp
 have h63: ∀c∈toL u.a,(c !=63)=true:=fun c hc=>by
  rw[bne_iff_ne];intro e;exact (hax c hc).2 (by rw[e];rfl)
 unfold oE dD
 cases hqq:u.q with
 |true=>
  rw[if_pos rfl];obtain ⟨e1,e2⟩:=mF (p:=fun c=>c !=63) (c:=63) (r:=toL u.r) de h63;rw[e1,e2];simp only[List.drop_succ_cons,zv,List.isEmpty_cons,Bool.not_false];rw[hA,hR,<-hqq]
 |false=>
  rw[if_neg de];obtain ⟨e1,e2⟩:=oW (p:=fun c=>c !=63) h63;rw[e1,e2];have hr0:u.r=ByteArray.empty:=by
   rcases hq with h1|h1
   .rw[hqq]at h1;cases h1
   apply bX;exact zo (by simpa[toL] using h1)
  simp only[List.drop_nil,List.isEmpty_nil,Bool.not_true];have e3:plB 2 ⟨([]:List UInt8).toArray⟩=u.r:=by rw[hr0];rfl
  rw[hA,e3,<-hqq]
theorem qY{u:UV}(h:uOk u=true)(hb:0<(hTx u.h).size): ∃rest:List UInt8,dD u=47::rest/\uTx u=iX u.s++47::47::((toL (hTx u.h)++jH u.s u.p)++47::rest)/\
  (∀c∈toL (hTx u.h)++jH u.s u.p,auC c.toNat=true)/\toL (hTx u.h)++jH u.s u.p≠[]/\(∀c∈uTx u,txC c.toNat=true):=by
 obtain ⟨hs,hh,hp,ha,hq,ho,hpl⟩:=eL h;obtain ⟨r,hr⟩:=iR ha.1;have hrs: ∃rest:List UInt8,dD u=47::rest:=by
  unfold dD;rw[show toL u.a=_ from hr];split
  .exact ⟨r++63::toL u.r,rfl⟩
  exact ⟨r,rfl⟩
 obtain ⟨rest,hrest⟩:=hrs;have hx:uTx u=iX u.s++47::47::((toL (hTx u.h)++jH u.s u.p)++47::rest):=by
  unfold uTx;rw[if_pos h,hrest];unfold fF;simp
 have hau: ∀c∈toL (hTx u.h)++jH u.s u.p,auC c.toNat=true:=by
  intro c hc
  rcases ze.1 hc with h1|h1
  .rcases FE hh hb with h2|⟨m,h2,h3⟩
   .rcases h2 c h1 with h4|h4
    .exact (tB h4).1
    rw[h4];decide
   rw[h2]at h1
   rcases za.1 h1 with h4|h4
   .rw[h4];decide
   rcases ze.1 h4 with h5|h5
   .rcases h3 c h5 with h6|h6
    .exact (tB h6).1
    rw[h6];decide
   rw[List.mem_singleton.1 h5];decide
  unfold jH at h1;split at h1
  .cases h1
  rcases za.1 h1 with h4|h4
  .rw[h4];decide
  exact (tB ((QS om).1 c h4)).1
 have hne:toL (hTx u.h)++jH u.s u.p≠[]:=by
  intro e;have h1:=congrArg List.length e;have h2:(toL (hTx u.h)).length=(hTx u.h).size:=by simp[toL]
  rw[zn,h2,z1]at h1;omega
 have hrt: ∀c∈dD u,txC c.toNat=true:=by
  intro c hc;unfold dD at hc;split at hc
  .rcases ze.1 hc with h1|h1
   .exact (BH ha.2.1 c h1).1
   rcases za.1 h1 with h2|h2
   .rw[h2];decide
   exact Aj ho c h2
  exact (BH ha.2.1 c hc).1
 refine ⟨rest,hrest,hx,hau,hne,?_⟩;rw[hx];intro c hc
 rcases ze.1 hc with h1|h1
 .clear hc
  unfold iX at h1;split at h1
  .revert c;decide
  revert c;decide
 rcases za.1 h1 with h2|h2
 .rw[h2];decide
 rcases za.1 h2 with h3|h3
 .rw[h3];decide
 rcases ze.1 h3 with h4|h4
 .exact au_tx (hau c h4)
 rw[<-hrest]at h4;exact hrt c h4
theorem Ap{u:UV}(h:uOk u=true)(hb:0<(hTx u.h).size)(hv:rV (aO (hTx u.h))=u.h)(hc:rC (aO (hTx u.h))=0)(hl:(fF u).length+(dD u).length<=2000):MJ u.s (toL (hTx u.h)++jH u.s u.p) (dD u)=(0,u):=by
 obtain ⟨hs,hh,hp,ha,hq,ho,hpl⟩:=eL h;have hhost:tK u.s u.p (toL (hTx u.h)) (dD u)=(0,u):=by
  unfold tK;rw[WC,hc,if_pos rfl,hv,KI h];unfold MI;rw[if_pos hl]
 have hd5:=QS (n:=u.p.toNat) om;have hd93: ∀c∈jS u.p.toNat,c≠93:=fun c hc e=>(tB (hd5.1 c hc)).2.2 (by rw[e];rfl)
 have hcol:yN (toL (hTx u.h))=none/\yN (toL (hTx u.h)++58::jS u.p.toNat)=some (toL (hTx u.h)).length:=by
  rcases FE hh hb with h2|⟨m,h2,h3⟩
  .refine Ao (fun c hc=> ?_) hd93
   rcases h2 c hc with h4|h4
   .exact ⟨fun e=>(tB h4).2.1 (by rw[e];rfl),fun e=>(tB h4).2.2 (by rw[e];rfl)⟩
   rw[h4];decide
  rw[h2];exact Er hd93
 unfold jH
 by_cases hd:u.p=cJ u.s
 .rw[if_pos hd,List.append_nil]
  unfold MJ;rw[hcol.1];simp only;rw[<-hd];exact hhost
 rw[if_neg hd];have hpn:eP u.s (jS u.p.toNat)=u.p:=by
  unfold eP;rw[if_neg hd5.2,U7 om];simp only;omega
 unfold MJ;rw[hcol.2];simp only;have e1:(toL (hTx u.h)++58::jS u.p.toNat).drop ((toL (hTx u.h)).length+1)=jS u.p.toNat:=by
  rw[List.drop_append,List.drop_of_length_le om];simp
 have e2:(toL (hTx u.h)++58::jS u.p.toNat).take (toL (hTx u.h)).length=toL (hTx u.h):=List.take_left;rw[e1,e2,hpn,if_pos hp];exact hhost
theorem G9{u:UV}(h:uOk u=true)(hb:0<(hTx u.h).size)(hv:rV (aO (hTx u.h))=u.h)(hc:rC (aO (hTx u.h))=0)(hl:(fF u).length+(dD u).length<=2000):sB (uTx u)=(0,u):=by
 obtain ⟨rest,hr,hx,hau,hne,_⟩:=qY h hb;have hcut:=Ap h hb hv hc hl;rw[hr]at hcut;have hs:=(eL h).1;have hs12:u.s=1∨u.s=2:=by
  unfold cJ at hs
  by_cases h1:u.s=1
  .exact .inl h1
  rw[if_neg h1]at hs
  by_cases h2:u.s=2
  .exact .inr h2
  rw[if_neg h2]at hs;exact absurd rfl hs
 unfold sB;rw[hx];have hgo:=An u.s (rest:=rest) hau hne
 rcases hs12 with h1|h1
 .have e:iX u.s=pL:=by unfold iX;rw[if_pos h1]
  rw[e,SR];simp only;rw[<-h1,hgo,hcut]
 have e:iX u.s=kE:=by unfold iX;rw[if_neg om]
 rw[e,ND];simp only;rw[<-h1,hgo,hcut]
theorem pU{u:UV}(h:uOk u=true):(uTx u).length=(fF u).length+(dD u).length:=by
 unfold uTx;rw[if_pos h,zn]
theorem FI{u:UV}(h:uOk u=true)(hb:0<(hTx u.h).size)(hv:rV (aO (hTx u.h))=u.h)(hc:rC (aO (hTx u.h))=0)(hl:(uTx u).length<=2000):cG (uTx u)=(0,u)/\((uTx u).length<=1997->cG (32::(uTx u++[35,102]))=(0,u)):=by
 obtain ⟨_,_,_,_,_,htx⟩:=qY h hb;have hr:=G9 h hb hv hc (by rw[<-pU h];exact hl);constructor
 .unfold cG
  rw[if_neg om,FF htx,hr]
 intro h3;unfold cG;rw[if_neg (by simp only[List.length_cons,zn,z1];omega),WB htx,hr]
def yY(r:Int×UV):Prop:=(1<=r.1/\r.1<=5/\r.2=fJ)∨(r.1=0/\uOk r.2=true/\(fF r.2).length+(dD r.2).length<=2000)
theorem jP{c:Int}(h:1<=c/\c<=5):yY (c,fJ):=.inl ⟨h.1,h.2,rfl⟩
theorem qZ{s p:Int}{h:HV}{l:List UInt8}(hs:cJ s≠0)(hh:hOk h=true)(hp:1<=p/\p<=65535)(hl: ∀c r,l=c::r->dJ c=false):uOk (oE s h p l)=true:=by
 have hroot:bR ⟨(eA (yO (l.takeWhile fun c=>c !=63))).toArray⟩=true:=by
  cases l with
  |nil=>rfl
  |cons c r=>
   have hc:=hl c r rfl;have key: ∀n,n<256->dJ (zf n)=false->n=47∨n=92∨n=63:=by decide+kernel
   have h1:=key c.toNat c.toNat_lt (by simpa using hc)
   by_cases h63:c.toNat=63
   .have e:c=63:=zt.1 h63
    rw[e,zi,if_neg de];rfl
   have e:(c !=63)=true:=by
    rw[bne_iff_ne];intro e;exact h63 (by rw[e];rfl)
   rw[zi,e,if_pos rfl];have h47:c=47∨c=92:=by
    rcases h1 with h2|h2|h2
    .exact .inl (zt.1 h2)
    .exact .inr (zt.1 h2)
    exact absurd h2 h63
   apply JH (r:=eA (r.takeWhile fun c=>c !=63))
   rcases h47 with rfl|rfl<;>rfl
 refine NE hs hh hp (E4 hroot) ?_ ?_ ?_
 .unfold oE
  simp only
  cases hm:l.dropWhile fun c=>c !=63 with
  |nil=>exact .inr rfl
  |cons _ _=>exact .inl rfl
 .show okL 2 (plL 2 _)=true
  exact NU 2 de _
 show plL 2 (plL 2 _)=plL 2 _;exact J7 2 de _
theorem FJ{s p:Int}{auth rest:List UInt8}(hs:cJ s≠0)(hp:1<=p/\p<=65535)(hl: ∀c r,rest=c::r->dJ c=false):yY (tK s p auth rest):=by
 unfold tK;split
 .next hc=>
  have hh:hOk (rV (aO ⟨auth.toArray⟩))=true:=by
   rcases MD ⟨auth.toArray⟩with ⟨c,h1,h2,_⟩|h1
   .rw[h1]at hc
    have:c=0:=hc
    omega
   exact h1.1
  unfold MI;split
  .next h2=>exact .inr ⟨rfl,qZ hs hh hp hl,h2⟩
  exact jP de
 exact jP de
theorem SS{s:Int}(hs:cJ s≠0):1<=cJ s/\cJ s<=65535:=by
 unfold cJ at hs⊢;split
 .decide
 next h=>
 rw[if_neg h]at hs;split
 .decide
 next h2=>rw[if_neg h2]at hs;exact absurd rfl hs
theorem ST{s:Int}{t:List UInt8}(hs:cJ s≠0):yY (uP s t):=by
 have hl: ∀c r,(t.dropWhile slB).dropWhile dJ=c::r->dJ c=false:=by
  intro c r e;have h:=List.head?_dropWhile_not dJ (t.dropWhile slB);rw[e]at h;simpa using h
 unfold uP zN;split
 .exact jP de
 unfold MJ;split
 .exact FJ hs (SS hs) hl
 split
 .next h=>exact FJ hs h hl
 exact jP de
theorem tC(l:List UInt8):yY (cG l):=by
 unfold cG;split
 .exact jP de
 unfold sB;split
 .exact jP de
 next s t h=>
 apply ST;unfold eT at h;split at h
 .cases h;decide
 split at h
 .cases h;decide
 cases h
end
section
open Go.RowKit
def oN(l:ByteArray):ByteArray:=⟨(l.data.toList.takeWhile fun c=>c !=63).toArray⟩
def gL(l:ByteArray):ByteArray:=⟨(l.data.toList.dropWhile fun c=>c !=63).toArray⟩
def iU(l:ByteArray):ByteArray:=if l.size=0 then ⟨#[47]⟩else l
def nP(l:ByteArray):ByteArray:=cE (plB 1 ⟨(eA (iU (oN l)).data.toList).toArray⟩)
def tZ(l:ByteArray):Bool:=decide (0<(gL l).size)
def lR(l:ByteArray):ByteArray:=plB 2 ((gL l).extract 1 (gL l).size)
theorem Aq(c:UInt8):eW (⟨#[63]⟩:ByteArray).data.toList (c.toNat:Int)= !(c !=63):=by
 have key: ∀n:Nat,n<256->eW [63] (n:Int)= !(zf n !=63):=by decide+kernel
 have h:=key c.toNat c.toNat_lt;simpa using h
theorem nQ{p:UInt8->Bool}(l:ByteArray):(⟨(l.data.toList.takeWhile p).toArray⟩:ByteArray).size<=l.size/\(⟨(l.data.toList.dropWhile p).toArray⟩:ByteArray).size<=l.size:=by
 have h:l.data.toList.length=l.size:=by simp
 have h1:=congrArg List.length (List.takeWhile_append_dropWhile (p:=p) (l:=l.data.toList));rw[zn,h]at h1;constructor
 .show (l.data.toList.takeWhile p).toArray.size<=_
  rw[zx];omega
 show (l.data.toList.dropWhile p).toArray.size<=_;rw[zx];omega
theorem Ar(s k n p:Int)(nm a r:ByteArray)(q:Bool)(x0 x1 x2 x3 x4 x5 x6 x7:Int)(l:ByteArray)(w:World)(hl:l.size<=4194303):Calls prog 59 #[D #[I J s,I J k,L nm,I J n,I J x0,I J x1,I J x2,I J x3,I J x4,I J x5,I J x6,I J x7,I J p,L a,F q,L r],L l] w fun e w'=>e=.returned (D (aC s k nm n x0 x1 x2 x3 x4 x5 x6 x7 p (nP l) (tZ l) (lR l)).toArray)/\Below w.heap.size w w':=by
 obtain ⟨hs1,hs2⟩:=nQ (p:=fun c=>c !=63) l;have CU:Hid (∀W,CB 54 #[L l,L ⟨#[63]⟩] W (G #[L (oN l),L (gL l)])):=fun W=>E7 (fun c=>c !=63) ⟨#[63]⟩ l W de Aq om
 have hps:(iU (oN l)).size<=4194304:=by
  unfold iU;split
  .decide
  exact Nat.le_trans hs1 om
 have CP:Hid (∀W,CB 117 #[L (iU (oN l))] W (L (nP l))):=fun W=>X0 _ W hps
 have CR:Hid (∀W,CB 41 #[L ((gL l).extract 1 (gL l).size),I J 2] W (L (lR l))):=fun W=>zO _ 2 W (by rw[ByteArray.size_extract];have:(gL l).size<=l.size:=hs2;omega)
 have HQ:Hid (tZ l=decide (0<(gL l).size)):=rfl;have HR0:Hid ((gL l).size=0->lR l=⟨#[]⟩):=fun h=>by
  show plB 2 ((gL l).extract 1 (gL l).size)=_;apply bX;rw[oD];have e:toL ((gL l).extract 1 (gL l).size)=[]:=zo (by simp[toL];omega);rw[e];rfl
 have hms:(gL l).size<=l.size:=hs2;generalize nP l=A at CP⊢;generalize lR l=RR at CR HR0⊢;generalize gL l=M at CU CR HQ HR0 hms;generalize oN l=PP at CU CP hps;clear hs1 hs2;obtain ⟨O,hO⟩: ∃O,O=(w.alloc (Z #[I J s,I J k,L nm,I J n,I J x0,I J x1,I J x2,I J x3,I J x4,I J x5,I J x6,I J x7,I J p,L a,F q,L r] 28)).alloc (Z #[I J 0,I J 0,L ⟨#[]⟩,I J 0,I J 0,I J 0,I J 0,I J 0,I J 0,I J 0,I J 0,I J 0,I J 0,L ⟨#[]⟩,F false,L ⟨#[]⟩] 28):=⟨_,rfl⟩;have HU:Hid (UAt O w.heap.size (aC s k nm n x0 x1 x2 x3 x4 x5 x6 x7 p a q r)):=by
  rw[hO];exact (UAt.new w _ _).below ((Below.refl _ _).alloc (zp _) _)
 have HV:Hid (UAt O (w.heap.size+1) aY):=by
  rw[hO];have h:=UAt.new (w.alloc (Z #[I J s,I J k,L nm,I J n,I J x0,I J x1,I J x2,I J x3,I J x4,I J x5,I J x6,I J x7,I J p,L a,F q,L r] 28)) #[I J 0,I J 0,L ⟨#[]⟩,I J 0,I J 0,I J 0,I J 0,I J 0,I J 0,I J 0,I J 0,I J 0,I J 0,L ⟨#[]⟩,F false,L ⟨#[]⟩] 28;rw[World.size_alloc]at h;exact h
 have HB:Hid (Below w.heap.size w O):=by
  rw[hO];exact ((Below.refl _ w).alloc (zp _) _).alloc j2 _
 go_enter func59,ntmps59;go_wp2_with fail;rw[<-hO];clear hO;refine (CU.out _).mono ?_;rintro e w1 ⟨rfl,b1⟩;have HU1:Hid (UAt w1 w.heap.size (aC s k nm n x0 x1 x2 x3 x4 x5 x6 x7 p a q r)):=HU.out.below b1;have HV1:Hid (UAt w1 (w.heap.size+1) aY):=HV.out.below b1;have HB1:Hid (Below w.heap.size w w1):=HB.out.trans (b1.mono HB.out.size);clear b1 HU HV HB
 go_upto_if 13 with fail
 go_cut [5] (fun v wx=>v=L (iU PP)/\wx=w1)
 case first=>
  by_cases h0:PP.size=0
  .have HE:Hid (iU PP=⟨#[47]⟩):=by show _=_;unfold iU;rw[if_pos h0]
   rw[aV h0];go_wp2_with fail;go_meet;exact ⟨by rw[HE.out],rfl⟩
  have HE:Hid (iU PP=PP):=by show _=_;unfold iU;rw[if_neg h0]
  rw[aX (show 0<PP.size by omega)];go_wp2_with fail;go_meet;exact ⟨by rw[HE.out],rfl⟩
 obtain ⟨rfl,rfl⟩:=hcut;go_wp2_with fail;refine (CP.out _).mono ?_;rintro e w2 ⟨rfl,b2⟩;have HU2:=HU1.out.below b2;have HV2:Hid (UAt w2 (w.heap.size+1) aY):=HV1.out.below b2;have HB2:Hid (Below w.heap.size w w2):=HB1.out.trans (b2.mono HB1.out.size);have c13:=HU2.1 13 _ rfl;have c14:=HU2.1 14 _ rfl;have c15:=HU2.1 15 _ rfl;have f13:=HU2.2.1 13;have f14:=HU2.2.1 14;have f15:=HU2.2.1 15;obtain ⟨b,hb⟩: ∃b,(!M.toList.isEmpty)=b:=⟨_,rfl⟩;have hqb:tZ l=b:=by
  rw[HQ.out,<-hb]
  by_cases h0:M.size=0
  .rw[aV h0,decide_eq_false om];rfl
  rw[aX (show 0<M.size by omega),decide_eq_true om];rfl
 have HU3:Hid (UAt (((w2.setCell ⟨w.heap.size,13,none⟩ (L A)).setCell ⟨w.heap.size,14,none⟩ (F b)).setCell ⟨w.heap.size,15,none⟩ (L ⟨#[]⟩)) w.heap.size (aC s k nm n x0 x1 x2 x3 x4 x5 x6 x7 p A b ⟨#[]⟩)):=
  ((HU2.set 13 (by simp[aC]) _).set 14 (by simp[aC]) _).set 15 (by simp[aC]) _
 have HV3:Hid (UAt (((w2.setCell ⟨w.heap.size,13,none⟩ (L A)).setCell ⟨w.heap.size,14,none⟩ (F b)).setCell ⟨w.heap.size,15,none⟩ (L ⟨#[]⟩)) (w.heap.size+1) aY):=
  ((HV2.out.other om _ _).other om _ _).other om _ _
 have HB3:Hid (Below w.heap.size w (((w2.setCell ⟨w.heap.size,13,none⟩ (L A)).setCell ⟨w.heap.size,14,none⟩ (F b)).setCell ⟨w.heap.size,15,none⟩ (L ⟨#[]⟩))):=
  ((HB2.out.setCell (p:=⟨w.heap.size,13,none⟩) (zp _) _).setCell (p:=⟨w.heap.size,14,none⟩) (zp _) _).setCell (p:=⟨w.heap.size,15,none⟩) (zp _) _
 clear HU2 b2
 go_upto_if 22 with fail
 generalize (((w2.setCell ⟨w.heap.size,13,none⟩ (L A)).setCell ⟨w.heap.size,14,none⟩ (F b)).setCell ⟨w.heap.size,15,none⟩ (L ⟨#[]⟩))=w3 at HU3 HV3 HB3⊢;clear c13 c14 c15 f13 f14 f15 HV2 HB2;have HQB:Hid (tZ l=b):=hqb;clear hqb HQ
 go_cut [0] (fun _ wx=>Hid (UAt wx w.heap.size (aC s k nm n x0 x1 x2 x3 x4 x5 x6 x7 p A b RR))/\Hid (UAt wx (w.heap.size+1) aY)/\Hid (Below w.heap.size w wx))
 case first=>
  by_cases h0:M.size=0
  .have hbf:b=false:=by rw[<-hb,aV h0];rfl
   have hR:=HR0.out h0;subst hbf;clear hb;go_wp2_with fail;go_meet;exact ⟨by rw[hR];exact HU3,HV3,HB3⟩
  have hbt:b=true:=by rw[<-hb,aX (show 0<M.size by omega)];rfl
  subst hbt;clear hb;have hM:1<=M.size:=om;go_wp2_with fail;refine (CR.out _).mono ?_;rintro e w4 ⟨rfl,b4⟩;have HU4:=HU3.out.below b4;have HV4:=HV3.out.below b4;have HB4:=HB3.out.trans (b4.mono HB3.out.size);have c15:=HU4.1 15 _ rfl;have f15:=HU4.2.1 15;have HU5:Hid (UAt (w4.setCell ⟨w.heap.size,15,none⟩ (L RR)) w.heap.size (aC s k nm n x0 x1 x2 x3 x4 x5 x6 x7 p A true RR)):=HU4.set 15 (by simp[aC]) _;have HV5:Hid (UAt (w4.setCell ⟨w.heap.size,15,none⟩ (L RR)) (w.heap.size+1) aY):=HV4.other om _ _;have HB5:Hid (Below w.heap.size w (w4.setCell ⟨w.heap.size,15,none⟩ (L RR))):=HB4.setCell (p:=⟨w.heap.size,15,none⟩) (zp _) _;clear b4 HU4 HV4 HB4;go_wp2_with fail;go_meet;exact ⟨HU5,HV5,HB5⟩
 obtain ⟨HU,HV,HB⟩:=hcut;clear HU3 HV3 HB3 CR CP CU HU1 HV1 HB1 HR0 hb;go_wp2_with (first|(refine bU HU.out rfl rfl _ rfl rfl ?_)|(refine dI HV.out rfl (us:=aC s k nm n x0 x1 x2 x3 x4 x5 x6 x7 p A b RR) rfl (aS ..) rfl _ _ rfl rfl rfl ?_;intro w9 HU9 HM9));refine bodyPost_ret (fM rfl _ _ (w.heap.size+1) _ rfl rfl HU9) rfl ⟨by rw[HQB.out],HM9.2 _ _ (Nat.le_succ _) HB.out⟩
