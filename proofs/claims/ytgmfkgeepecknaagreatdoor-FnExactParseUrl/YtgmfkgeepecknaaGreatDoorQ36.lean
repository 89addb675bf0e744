/- UrlErr, UrlBack, UrlImpl3. -/
import Derived.LaidEql
import Derived.Stop.Asserts
import Derived.RowKitTokens
import Derived.Test.YtgmfkgeepecknaaGreatDoorQ35
import Derived.Test.YtgmfkgeepecknaaGreatDoorQ33
import Derived.Deep.CutBlock
set_option maxHeartbeats 8000000
set_option maxRecDepth 100000
namespace Go.Proofs.YtgmfkgeepecknaaGreatDoor
open Go.RowKit Go.Extern.Stop Go.Stop Go.Extern
theorem as_nil (t : Value) (w : World) :
  Calls Tryz.prog 44 #[.nilIface, t] w fun e w' => e = .returned (.bool false) ∧ w = w' := by
 go_enter Tryz.func44, Tryz.ntmps44
 go_wp2
 go_ret
 exact ⟨rfl, rfl⟩
theorem rl_valueP (t : Addr) (w : World) : (ReflectliteValue.unpack (.iface 64 (.pointer (some t)))).run Tryz.prog w
  = .ok (.agg #[.pointer (some ⟨9, 64, none⟩), .pointer (some ⟨w.heap.size, 0, none⟩), .int .u64 150]) (w.alloc (.cells #[.pointer (some t)] 64)) := by kernel_rfl
theorem rl_typeP (a : Addr) (w : World) : (ReflectliteValue.methodAny (ReflectliteValue.valueError "reflectlite.Value.Type" 0) (fun t _ _ _ => ReflectliteType.toType t) #[.agg #[.pointer (some ⟨9, 64, none⟩), .pointer (some a), .int .u64 150]]).run Tryz.prog w
  = .ok (.iface 144 (.agg #[.pointer (some ⟨9, 64, none⟩)])) w := by kernel_rfl
theorem rl_methodKind (h : Value) (w : World) : (Go.method 367 144 (.agg #[h]) "Kind").run Tryz.prog w = .ok (301, h) w := by kernel_rfl
theorem rl_kindP (w : World) : ((ReflectliteType.abiMethod fun t => (fun a : Nat => Value.int IntKind.u8 (a : Int)) <$> Rtype.kind t) #[.pointer (some ⟨9, 64, none⟩)]).run Tryz.prog w = .ok (.int .u8 22) w := by kernel_rfl
theorem rl_kindE (w : World) : ((ReflectliteType.abiMethod fun t => (fun a : Nat => Value.int IntKind.u8 (a : Int)) <$> Rtype.kind t) #[.pointer (some ⟨9, 62, none⟩)]).run Tryz.prog w = .ok (.int .u8 25) w := by kernel_rfl
theorem rlm (z : Sem Value) (f : TypeId → Addr → Nat → Nat → Sem Value) (v : Value) :
  ReflectliteValue.method z f #[v] = (do match ← ReflectliteValue.parts v with | none => z | some (t, a, fl) => f t a fl (fl % 32)) := rfl
theorem rl_partsP (a : Addr) (w : World) : (ReflectliteValue.parts (.agg #[.pointer (some ⟨9, 64, none⟩), .pointer (some a), .int .u64 150])).run Tryz.prog w = .ok (some (64, a, 150)) w := by kernel_rfl
theorem rl_isNilP (a p : Addr) (W : World) (ha : W.cell? a = some (.pointer (some p))) :
  (ReflectliteValue.method (ReflectliteValue.valueError "reflectlite.Value.IsNil" 0) ReflectliteValue.isNil #[.agg #[.pointer (some ⟨9, 64, none⟩), .pointer (some a), .int .u64 150]]).run Tryz.prog W = .ok (.bool false) W := by
 rw [rlm]
 simp only [Sem.run_bind, rl_partsP, Result.andThen]
 simp [ReflectliteValue.isNil, loadVar, isAgg, underlying, Tryz.underlying64, ha, Result.andThen]
theorem rl_methodElem (h : Value) (w : World) : (Go.method 367 144 (.agg #[h]) "Elem").run Tryz.prog w = .ok (314, .agg #[h]) w := by kernel_rfl
theorem rl_methodImpl (h : Value) (w : World) : (Go.method 367 144 (.agg #[h]) "Implements").run Tryz.prog w = .ok (315, .agg #[h]) w := by kernel_rfl
theorem rl_methodAssign (h : Value) (w : World) : (Go.method 367 144 (.agg #[h]) "AssignableTo").run Tryz.prog w = .ok (312, .agg #[h]) w := by kernel_rfl
theorem rl_elemP (w : World) : (ReflectliteType.method ReflectliteType.elem #[.agg #[.pointer (some ⟨9, 64, none⟩)]]).run Tryz.prog w = .ok (.iface 144 (.agg #[.pointer (some ⟨9, 62, none⟩)])) w := by kernel_rfl
theorem rl_implE (w : World) : (ReflectliteType.relation "Implements" ReflectliteType.implements_ #[.agg #[.pointer (some ⟨9, 62, none⟩)], .iface 144 (.agg #[.pointer (some ⟨9, 58, none⟩)])]).run Tryz.prog w = .ok (.bool true) w := by kernel_rfl
theorem rl_typeOfE (v : Value) (w : World) : (ReflectliteType.typeOf #[.iface 62 v]).run Tryz.prog w = .ok (.iface 144 (.agg #[.pointer (some ⟨9, 62, none⟩)])) w := by kernel_rfl
theorem rl_assignE (w : World) : (ReflectliteType.relation "AssignableTo" ReflectliteType.assignableTo #[.agg #[.pointer (some ⟨9, 62, none⟩)], .iface 144 (.agg #[.pointer (some ⟨9, 62, none⟩)])]).run Tryz.prog w = .ok (.bool true) w := by kernel_rfl
theorem rl_valueE (c : Int) (w : World) : (ReflectliteValue.unpack (.iface 62 (.agg #[.int .i64 c]))).run Tryz.prog w
  = .ok (.agg #[.pointer (some ⟨9, 62, none⟩), .pointer (some ⟨w.heap.size, 0, none⟩), .int .u64 153]) (w.alloc (.cells #[.int .i64 c] 62)) := by kernel_rfl
theorem rl_elemOfP (w : World) : (Rtype.elem? 64).run Tryz.prog w = .ok (some 62) w := by kernel_rfl
theorem rl_mkE (p : Addr) (w : World) : (ReflectliteValue.mk 62 p ReflectliteValue.flagAddr).run Tryz.prog w = .ok (.agg #[.pointer (some ⟨9, 62, none⟩), .pointer (some p), .int .u64 409]) w := by kernel_rfl
theorem rl_elemV (a p : Addr) (W : World) (ha : W.cell? a = some (.pointer (some p))) :
  (ReflectliteValue.method (ReflectliteValue.valueError "reflectlite.Value.Elem" 0) ReflectliteValue.elem #[.agg #[.pointer (some ⟨9, 64, none⟩), .pointer (some a), .int .u64 150]]).run Tryz.prog W
   = .ok (.agg #[.pointer (some ⟨9, 62, none⟩), .pointer (some p), .int .u64 409]) W := by
 rw [rlm]
 simp only [Sem.run_bind, rl_partsP, Result.andThen]
 simp [ReflectliteValue.elem, loadVar, isAgg, underlying, Tryz.underlying64, ha, Result.andThen, rl_elemOfP, rl_mkE]
theorem rls (v x : Value) : ReflectliteValue.set #[v, x] = (do
  let (some (dst, a, fl), some (src, b, _)) := (← ReflectliteValue.parts v, ← ReflectliteValue.parts x)
   | unsupported (.noEntry "extern/(internal/reflectlite.Value).Set.zeroValue")
  if fl / ReflectliteValue.flagAddr % 2 == 0 then unsupported (.noEntry "extern/(internal/reflectlite.Value).Set.unaddressable")
  let val ← loadVar src b
  if ← Rtype.directlyAssignable dst src then storeVar dst a val
  else if ← Rtype.implements dst src then
   if (← Rtype.kind src) == 20 then
    match val with
    | .nilIface => unsupported (.noEntry "extern/reflectlite: a nil value of one interface type handed on as a value of another")
    | _ => storeVar dst a val
   else storeVar dst a (.iface src val)
  else panicString ("reflectlite.Set: value of type " ++ (← Rtype.spelt src) ++ " is not assignable to type " ++ (← Rtype.spelt dst))
  pure (.tuple #[])) := rfl
theorem rl_partsA (a : Addr) (w : World) : (ReflectliteValue.parts (.agg #[.pointer (some ⟨9, 62, none⟩), .pointer (some a), .int .u64 409])).run Tryz.prog w = .ok (some (62, a, 409)) w := by kernel_rfl
theorem rl_partsE (a : Addr) (w : World) : (ReflectliteValue.parts (.agg #[.pointer (some ⟨9, 62, none⟩), .pointer (some a), .int .u64 153])).run Tryz.prog w = .ok (some (62, a, 153)) w := by kernel_rfl
theorem rl_direct (w : World) : (Rtype.directlyAssignable 62 62).run Tryz.prog w = .ok true w := by kernel_rfl
theorem rl_load (b : Nat) (c : Int) (W : World) (hb : W.cell? ⟨b, 0, none⟩ = some (.int .i64 c)) : (loadVar 62 ⟨b, 0, none⟩).run Tryz.prog W = .ok (.agg #[.int .i64 c]) W := by
 have hr := run_loadVar_mid (P := Tryz.prog) W b 0 62 [.int .i64 c] _ (fun j v hv => by
  match j, hv with
  | 0, hv => cases hv; exact hb) Tryz.underlying62 rfl (by kernel_rfl)
 exact hr
theorem rl_set (t b : Nat) (c : Int) (old : Value) (W : World) (hb : W.cell? ⟨b, 0, none⟩ = some (.int .i64 c)) (ht : W.cell? ⟨t, 0, none⟩ = some old) (hf : W.frozen? ⟨t, 0, none⟩ = false) :
  (ReflectliteValue.set #[.agg #[.pointer (some ⟨9, 62, none⟩), .pointer (some ⟨t, 0, none⟩), .int .u64 409], .agg #[.pointer (some ⟨9, 62, none⟩), .pointer (some ⟨b, 0, none⟩), .int .u64 153]]).run Tryz.prog W
   = .ok (.tuple #[]) (W.setCell ⟨t, 0, none⟩ (.int .i64 c)) := by
 rw [rls]
 simp only [Sem.run_bind, rl_partsA, rl_partsE, Result.andThen]
 simp [ReflectliteValue.flagAddr, rl_load b c W hb, Result.andThen, rl_direct, storeVar, Value.cells, storeCells, Addr.add]
 rw [run_store Tryz.prog W ⟨t, 0, none⟩ _ _ (by rfl)]
 simp [ht, hf]
theorem as_hit (c : Int) (t : Nat) (old : Value) (w : World) (hg : ErrT w) (ht0 : w.cell? ⟨t, 0, none⟩ = some old) (hf0 : w.frozen? ⟨t, 0, none⟩ = false) :
  Calls Tryz.prog 44 #[.iface 62 (.agg #[.int .i64 c]), .iface 64 (.pointer (some ⟨t, 0, none⟩))] w fun ev w' => ev = .returned (.bool true) ∧ w' = ((((w.alloc (.cells #[.pointer (some ⟨t, 0, none⟩)] 64)).alloc (.cells #[.pointer (some ⟨9, 64, none⟩), .pointer (some ⟨w.heap.size, 0, none⟩), .int .u64 150] 110)).alloc (.cells #[.pointer (some ⟨9, 64, none⟩), .pointer (some ⟨w.heap.size, 0, none⟩), .int .u64 150] 110)).alloc (.cells #[.int .i64 c] 62)).setCell ⟨t, 0, none⟩ (.int .i64 c) := by
 have h6 := @run_callFunc_extern Tryz.prog 91 _ (fun args => ReflectliteValue.unpack (args.getD 0 (.tuple #[]))) Tryz.func91 (by kernel_rfl) (by kernel_rfl) (by kernel_rfl) (by kernel_rfl)
 have h7 := @run_callFunc_extern Tryz.prog 92 _ (ReflectliteValue.methodAny (ReflectliteValue.valueError "reflectlite.Value.Type" 0) (fun t _ _ _ => ReflectliteType.toType t)) Tryz.func92 (by kernel_rfl) (by kernel_rfl) (by kernel_rfl) (by kernel_rfl)
 have h8 := @run_callFunc_extern Tryz.prog 93 _ (ReflectliteValue.method (ReflectliteValue.valueError "reflectlite.Value.IsNil" 0) ReflectliteValue.isNil) Tryz.func93 (by kernel_rfl) (by kernel_rfl) (by kernel_rfl) (by kernel_rfl)
 have h27 := @run_callFunc_extern Tryz.prog 301 _ (ReflectliteType.abiMethod fun t => do pure (.int .u8 (← Rtype.kind t))) Tryz.func301 (by kernel_rfl) (by kernel_rfl) (by kernel_rfl) (by kernel_rfl)
 have h37 := @run_callFunc_extern Tryz.prog 314 _ (ReflectliteType.method ReflectliteType.elem) Tryz.func314 (by kernel_rfl) (by kernel_rfl) (by kernel_rfl) (by kernel_rfl)
 have h38 := @run_callFunc_extern Tryz.prog 315 _ (ReflectliteType.relation "Implements" ReflectliteType.implements_) Tryz.func315 (by kernel_rfl) (by kernel_rfl) (by kernel_rfl) (by kernel_rfl)
 have h10 := @run_callFunc_extern Tryz.prog 140 _ ReflectliteType.typeOf Tryz.func140 (by kernel_rfl) (by kernel_rfl) (by kernel_rfl) (by kernel_rfl)
 have h35 := @run_callFunc_extern Tryz.prog 312 _ (ReflectliteType.relation "AssignableTo" ReflectliteType.assignableTo) Tryz.func312 (by kernel_rfl) (by kernel_rfl) (by kernel_rfl) (by kernel_rfl)
 have h11 := @run_callFunc_extern Tryz.prog 141 _ (ReflectliteValue.method (ReflectliteValue.valueError "reflectlite.Value.Elem" 0) ReflectliteValue.elem) Tryz.func141 (by kernel_rfl) (by kernel_rfl) (by kernel_rfl) (by kernel_rfl)
 have h12 := @run_callFunc_extern Tryz.prog 142 _ ReflectliteValue.set Tryz.func142 (by kernel_rfl) (by kernel_rfl) (by kernel_rfl) (by kernel_rfl)
 have tO := rl_typeOfE
 have mA := rl_methodAssign
 have a25 := rl_assignE
 have v25 := rl_valueE
 have f6 := rl_valueP
 have f7 := rl_typeP
 have mK := rl_methodKind
 have mE := rl_methodElem
 have mI := rl_methodImpl
 have k27 := rl_kindP
 have k25 := rl_kindE
 have e27 := rl_elemP
 have i25 := rl_implE
 have n8 := rl_isNilP ⟨w.heap.size, 0, none⟩ ⟨t, 0, none⟩ ((w.alloc (.cells #[.pointer (some ⟨t, 0, none⟩)] 64)).alloc (.cells #[.pointer (some ⟨9, 64, none⟩), .pointer (some ⟨w.heap.size, 0, none⟩), .int .u64 150] 110)) (by simp)
 have hlt : 0 < w.heap.size := World.block_lt_of_cell? w ⟨0, 0, none⟩ hg
 have hg2 : ((w.alloc (.cells #[.pointer (some ⟨t, 0, none⟩)] 64)).alloc (.cells #[.pointer (some ⟨9, 64, none⟩), .pointer (some ⟨w.heap.size, 0, none⟩), .int .u64 150] 110)).cell? ⟨0, 0, none⟩ = some (.iface 144 (.agg #[.pointer (some ⟨9, 58, none⟩)])) := by
  rw [World.cell?_alloc_lt _ _ ⟨0, 0, none⟩ (Nat.lt_of_lt_of_le hlt (by simp)), World.cell?_alloc_lt _ _ ⟨0, 0, none⟩ hlt]; exact hg
 have htl : t < w.heap.size := World.block_lt_of_cell? w ⟨t, 0, none⟩ ht0
 have el := rl_elemV ⟨w.heap.size, 0, none⟩ ⟨t, 0, none⟩ (((w.alloc (.cells #[.pointer (some ⟨t, 0, none⟩)] 64)).alloc (.cells #[.pointer (some ⟨9, 64, none⟩), .pointer (some ⟨w.heap.size, 0, none⟩), .int .u64 150] 110)).alloc (.cells #[.pointer (some ⟨9, 64, none⟩), .pointer (some ⟨w.heap.size, 0, none⟩), .int .u64 150] 110)) (by rw [World.cell?_alloc_lt _ _ ⟨w.heap.size, 0, none⟩ (by simp; omega)]; simp)
 have st := rl_set t (w.heap.size + 1 + 1 + 1) c old ((((w.alloc (.cells #[.pointer (some ⟨t, 0, none⟩)] 64)).alloc (.cells #[.pointer (some ⟨9, 64, none⟩), .pointer (some ⟨w.heap.size, 0, none⟩), .int .u64 150] 110)).alloc (.cells #[.pointer (some ⟨9, 64, none⟩), .pointer (some ⟨w.heap.size, 0, none⟩), .int .u64 150] 110)).alloc (.cells #[.int .i64 c] 62))
  (by rw [World.cell?_alloc_at _ _ _ _ (by simp)]; rfl)
  (by rw [World.cell?_alloc_lt _ _ ⟨t, 0, none⟩ (by simp; omega), World.cell?_alloc_lt _ _ ⟨t, 0, none⟩ (by simp; omega), World.cell?_alloc_lt _ _ ⟨t, 0, none⟩ (by simp; omega), World.cell?_alloc_lt _ _ ⟨t, 0, none⟩ htl]; exact ht0)
  (by rw [World.frozen?_alloc_old _ _ ⟨t, 0, none⟩ (by simp; omega), World.frozen?_alloc_old _ _ ⟨t, 0, none⟩ (by simp; omega), World.frozen?_alloc_old _ _ ⟨t, 0, none⟩ (by simp; omega), World.frozen?_alloc_old _ _ ⟨t, 0, none⟩ (Nat.ne_of_lt htl)]; exact hf0)
 unfold ErrT at hg
 go_enter Tryz.func44, Tryz.ntmps44
 go_wp2
 refine wp_loop_rounds 1 ?_
 rw [rounds_succ]
 go_wp2
 go_ret
 exact ⟨rfl, rfl⟩
end Go.Proofs.YtgmfkgeepecknaaGreatDoor
namespace Go.Proofs.YtgmfkgeepecknaaGreatDoor
open Go.RowKit
theorem uOk_of {u : UV} (h1 : dport u.s ≠ 0) (h2 : hOk u.h = true) (h3 : 1 ≤ u.p ∧ u.p ≤ 65535) (h4 : pathOk u.a) (h5 : u.q = true ∨ u.r.size = 0) (h6 : okL 2 (toL u.r) = true) (h7 : plL 2 (toL u.r) = toL u.r) : uOk u = true := by
 unfold uOk
 simp only [Bool.and_eq_true, Bool.or_eq_true, decide_eq_true_eq]
 exact ⟨⟨⟨⟨⟨⟨⟨⟨⟨h1, h2⟩, h3⟩, h4.1⟩, h5⟩, h4.2.1⟩, h4.2.2.1⟩, by rw [h4.2.2.2]⟩, h6⟩, h7⟩
theorem text_len {u : UV} (h : uOk u = true) : (uTx u).length = (orgL u).length + (rstL u).length := by
 unfold uTx
 rw [if_pos h, List.length_append]
def rightU (r : Int × UV) : Prop := (1 ≤ r.1 ∧ r.1 ≤ 5 ∧ r.2 = noneU) ∨ (r.1 = 0 ∧ uOk r.2 = true ∧ (orgL r.2).length + (rstL r.2).length ≤ 2000)
theorem right_no {c : Int} (h : 1 ≤ c ∧ c ≤ 5) : rightU (c, noneU) := .inl ⟨h.1, h.2, rfl⟩
theorem tail_right {s p : Int} {h : HV} {l : List UInt8} (hs : dport s ≠ 0) (hh : hOk h = true) (hp : 1 ≤ p ∧ p ≤ 65535) (hl : ∀ c r, l = c :: r → noEnd c = false) : uOk (tailU s h p l) = true := by
 have hroot : rooted ⟨(backL (orSl (l.takeWhile fun c => c != 63))).toArray⟩ = true := by
  cases l with
  | nil => rfl
  | cons c r =>
   have hc := hl c r rfl
   have key : ∀ n, n < 256 → noEnd (UInt8.ofNat n) = false → n = 47 ∨ n = 92 ∨ n = 63 := by decide +kernel
   have h1 := key c.toNat c.toNat_lt (by simpa using hc)
   by_cases h63 : c.toNat = 63
   ·have e : c = 63 := UInt8.toNat_inj.1 h63
    rw [e, List.takeWhile_cons, if_neg (by decide)]
    rfl
   have e : (c != 63) = true := by
    rw [bne_iff_ne]
    intro e
    exact h63 (by rw [e]; rfl)
   rw [List.takeWhile_cons, e, if_pos rfl]
   have h47 : c = 47 ∨ c = 92 := by
    rcases h1 with h2 | h2 | h2
    ·exact .inl (UInt8.toNat_inj.1 h2)
    ·exact .inr (UInt8.toNat_inj.1 h2)
    exact absurd h2 h63
   apply rooted_of (r := backL (r.takeWhile fun c => c != 63))
   rcases h47 with rfl | rfl <;> rfl
 refine uOk_of hs hh hp (path_made hroot) ?_ ?_ ?_
 ·unfold tailU
  simp only
  cases hm : l.dropWhile fun c => c != 63 with
  | nil => exact .inr rfl
  | cons _ _ => exact .inl rfl
 ·show okL 2 (plL 2 _) = true
  exact ok_pl 2 (by decide) _
 show plL 2 (plL 2 _) = plL 2 _
 exact pl_pl 2 (by decide) _
theorem host_right {s p : Int} {auth rest : List UInt8} (hs : dport s ≠ 0) (hp : 1 ≤ p ∧ p ≤ 65535) (hl : ∀ c r, rest = c :: r → noEnd c = false) : rightU (hostU s p auth rest) := by
 unfold hostU
 split
 ·next hc =>
  have hh : hOk (rV (readH ⟨auth.toArray⟩)) = true := by
   rcases read_ok ⟨auth.toArray⟩ with ⟨c, h1, h2, _⟩ | h1
   ·rw [h1] at hc
    have : c = 0 := hc
    omega
   exact h1.1
  unfold fitU
  split
  ·next h2 => exact .inr ⟨rfl, tail_right hs hh hp hl, h2⟩
  exact right_no (by decide)
 exact right_no (by decide)
theorem dport_ok {s : Int} (hs : dport s ≠ 0) : 1 ≤ dport s ∧ dport s ≤ 65535 := by
 unfold dport at hs ⊢
 split
 ·decide
 next h =>
 rw [if_neg h] at hs
 split
 ·decide
 next h2 => rw [if_neg h2] at hs; exact absurd rfl hs
theorem slash_right {s : Int} {t : List UInt8} (hs : dport s ≠ 0) : rightU (slashU s t) := by
 have hl : ∀ c r, (t.dropWhile slB).dropWhile noEnd = c :: r → noEnd c = false := by
  intro c r e
  have h := List.head?_dropWhile_not noEnd (t.dropWhile slB)
  rw [e] at h
  simpa using h
 unfold slashU authU
 split
 ·exact right_no (by decide)
 unfold cutU
 split
 ·exact host_right hs (dport_ok hs) hl
 split
 ·next h => exact host_right hs h hl
 exact right_no (by decide)
theorem url_right (l : List UInt8) : rightU (readU l) := by
 unfold readU
 split
 ·exact right_no (by decide)
 unfold readT
 split
 ·exact right_no (by decide)
 next s t h =>
 apply slash_right
 unfold schemeL at h
 split at h
 ·cases h; decide
 split at h
 ·cases h; decide
 cases h
end Go.Proofs.YtgmfkgeepecknaaGreatDoor
namespace Go.Proofs.YtgmfkgeepecknaaGreatDoor
open Go.RowKit
attribute [local go_sem ↓] Go.wp_at_zero Go.wp_at_succ
theorem ends_noEnd (c : UInt8) : ([47, 92, 63] : List UInt8).contains c = !noEnd c := by
 have key : ∀ n : Nat, n < 256 → ([47, 92, 63] : List UInt8).contains (UInt8.ofNat n) = !noEnd (UInt8.ofNat n) := by decide +kernel
 have h := key c.toNat c.toNat_lt
 simpa using h
theorem implCutAuthority (s : ByteArray) (w : World) (hs : s.size ≤ 1048576) :
  Calls Tryz.prog 86 #[.string s] w fun e w' => e = .returned (.tuple #[.string ⟨(s.data.toList.takeWhile noEnd).toArray⟩, .string ⟨(s.data.toList.dropWhile noEnd).toArray⟩]) ∧ Below w.heap.size w w' := by
 have hsl : s.data.toList.length = s.size := by simp
 have CA : Hid (CB 129 #[.string s, .string ⟨#[47, 92, 63]⟩] w (.int .i64 (Lib.indexAny s.data.toList [47, 92, 63]))) := implAny s w hs
 have hx := any_while [47, 92, 63] noEnd ends_noEnd s.data.toList
 obtain ⟨k, hk, hz, ht, hd⟩ : ∃ k : Nat, k ≤ s.size ∧ (Lib.indexAny s.data.toList [47, 92, 63] = (k : Int) ∨ (Lib.indexAny s.data.toList [47, 92, 63] = -1 ∧ k = s.size)) ∧ s.extract 0 k = ⟨(s.data.toList.takeWhile noEnd).toArray⟩ ∧ s.extract k s.size = ⟨(s.data.toList.dropWhile noEnd).toArray⟩ := by
  have hle : (s.data.toList.takeWhile noEnd).length ≤ s.size := by rw [← hsl]; exact (List.takeWhile_prefix _).length_le
  obtain ⟨h1, h2⟩ := while_take noEnd s.data.toList
  cases ha : s.data.toList.all noEnd with
  | true =>
   obtain ⟨h3, h4⟩ := all_while noEnd _ ha
   refine ⟨s.size, Nat.le_refl _, .inr ⟨by rw [hx, ha]; rfl, rfl⟩, ?_, ?_⟩
   ·apply toL_inj
    show (s.extract 0 s.size).data.toList = _
    rw [take_data, h3, List.take_of_length_le (by omega)]
    rfl
   apply toL_inj
   show (s.extract s.size s.size).data.toList = _
   rw [drop_data, h4, List.drop_of_length_le (by omega)]
   rfl
  | false =>
   refine ⟨(s.data.toList.takeWhile noEnd).length, hle, .inl (by rw [hx, ha]; rfl), ?_, ?_⟩
   ·apply toL_inj
    show (s.extract 0 _).data.toList = _
    rw [take_data, h1]
    rfl
   apply toL_inj
   show (s.extract _ s.size).data.toList = _
   rw [drop_data, h2]
   rfl
 clear hx
 have HT : Hid (s.extract 0 k = ⟨(s.data.toList.takeWhile noEnd).toArray⟩) := ht
 have HD : Hid (s.extract k s.size = ⟨(s.data.toList.dropWhile noEnd).toArray⟩) := hd
 generalize (⟨(s.data.toList.takeWhile noEnd).toArray⟩ : ByteArray) = X at HT ⊢
 generalize (⟨(s.data.toList.dropWhile noEnd).toArray⟩ : ByteArray) = Y at HD ⊢
 generalize Lib.indexAny s.data.toList [47, 92, 63] = z at CA hz
 clear ht hd hsl
 have hki : (k : Int) ≤ (s.size : Int) := by omega
 have hk0 : (0 : Int) ≤ (k : Int) := Int.natCast_nonneg _
 rcases hz with rfl | ⟨rfl, hks⟩
 ·go_enter Tryz.func86, Tryz.ntmps86
  go_wp2_with fail
  refine CA.out.mono ?_
  rintro e wa ⟨rfl, ba⟩
  go_wp2_with fail
  go_quiet (fail)
  go_wp2
  go_ret2
  exact ⟨by rw [← HT.out, ← HD.out]; rfl, ba.trans ⟨rfl, rfl, rfl, Nat.le_refl _, fun _ _ => rfl⟩⟩
 subst hks
 have HX : Hid (s.extract 0 s.size = s) := by
  apply toL_inj
  show (s.extract 0 s.size).data.toList = _
  rw [take_data, List.take_of_length_le (by simp)]
  rfl
 have HY : Hid (s.extract s.size s.size = ByteArray.empty) := by
  apply toL_inj
  show (s.extract s.size s.size).data.toList = _
  rw [drop_data, List.drop_of_length_le (by simp)]
  rfl
 go_enter Tryz.func86, Tryz.ntmps86
 go_wp2_with fail
 refine CA.out.mono ?_
 rintro e wa ⟨rfl, ba⟩
 go_wp2_with fail
 go_quiet (fail)
 go_wp2
 go_ret2
 exact ⟨by rw [← HT.out, ← HD.out, HX.out, HY.out]; rfl, ba.trans ⟨rfl, rfl, rfl, Nat.le_refl _, fun _ _ => rfl⟩⟩
def noneH : HV := ⟨0, ⟨#[]⟩, 0, zeros⟩
def autR (s : Int) (A : ByteArray) : Int × HV × Int := if A.data.toList.contains 64 = true then (3, noneH, 0)
 else if 1 ≤ portN s (poB A) ∧ portN s (poB A) ≤ 65535 then (if rC (readH ⟨(hoB A).toArray⟩) = 0 then (0, rV (readH ⟨(hoB A).toArray⟩), portN s (poB A)) else (4, noneH, 0)) else (5, noneH, 0)
def errV (c : Int) : Value := if c = 0 then .nilIface else noV c
theorem errV_no {c : Int} (h : c ≠ 0) : errV c = .iface 62 (.agg #[.int .i64 c]) := by unfold errV; rw [if_neg h]; rfl
theorem aut_way {s : Int} (hs : s = 1 ∨ s = 2) (A : ByteArray) (rest : List UInt8) : authU s A.data.toList rest = if (autR s A).1 = 0 then fitU (tailU s (autR s A).2.1 (autR s A).2.2 rest) else ((autR s A).1, noneU) := by
 unfold authU autR
 by_cases h1 : A.data.toList.contains 64 = true
 ·rw [if_pos h1, if_pos h1]; rfl
 rw [if_neg h1, if_neg h1, cut_way hs]
 by_cases h2 : 1 ≤ portN s (poB A) ∧ portN s (poB A) ≤ 65535
 ·rw [if_pos h2, if_pos h2]
  unfold hostU
  by_cases h3 : rC (readH ⟨(hoB A).toArray⟩) = 0
  ·rw [if_pos h3, if_pos h3]; rfl
  rw [if_neg h3, if_neg h3]; rfl
 rw [if_neg h2, if_neg h2]; rfl
theorem aut_ok {s : Int} {A : ByteArray} (h : (autR s A).1 = 0) : hOk (autR s A).2.1 = true ∧ 1 ≤ (autR s A).2.2 ∧ (autR s A).2.2 ≤ 65535 := by
 unfold autR at h ⊢
 by_cases h1 : A.data.toList.contains 64 = true
 ·rw [if_pos h1] at h; exact absurd h (by decide)
 rw [if_neg h1] at h ⊢
 by_cases h2 : 1 ≤ portN s (poB A) ∧ portN s (poB A) ≤ 65535
 ·rw [if_pos h2] at h ⊢
  by_cases h3 : rC (readH ⟨(hoB A).toArray⟩) = 0
  ·rw [if_pos h3]
   refine ⟨?_, h2⟩
   rcases read_ok ⟨(hoB A).toArray⟩ with ⟨c, h4, h5, _⟩ | ⟨h4, _⟩
   ·rw [h4] at h3
    have : c = 0 := h3
    omega
   exact h4
  rw [if_neg h3] at h; exact absurd h (by decide)
 rw [if_neg h2] at h; exact absurd h (by decide)
theorem aut_eight (s : Int) (A : ByteArray) : (autR s A).2.1.z.length = 8 := by
 unfold autR
 split
 ·rfl
 split
 ·split
  ·exact readH_eight _
  rfl
 rfl
theorem aut_parts (s : Int) (A : ByteArray) : ∃ (k n : Int) (nm : ByteArray) (x0 x1 x2 x3 x4 x5 x6 x7 : Int), (autR s A).2.1 = ⟨k, nm, n, [x0, x1, x2, x3, x4, x5, x6, x7]⟩ := by
 have h8 := aut_eight s A
 generalize (autR s A).2.1 = h at h8
 obtain ⟨k, nm, n, z⟩ := h
 match z, h8 with
 | [x0, x1, x2, x3, x4, x5, x6, x7], _ => exact ⟨k, n, nm, x0, x1, x2, x3, x4, x5, x6, x7, rfl⟩
theorem ho_len (A : ByteArray) : (hoB A).length ≤ A.size := by
 have hA : A.data.toList.length = A.size := by simp
 obtain ⟨hf, _⟩ := fr_le A
 have h := (List.takeWhile_prefix (fun x => x != 58) (l := A.data.toList.drop (frB A))).length_le
 rw [List.length_drop] at h
 unfold hoB upB
 rw [List.length_append, List.length_take]
 omega
theorem PU.moved {w : World} {row : List Value} {W W' : World} {C : Nat} (h : PU w row W) (hC : w.heap.size < C) (hM : Moved C W W') : PU w row W' := ⟨hM.1 _ _ (by omega) h.1, hM.2 _ _ (by omega) h.2⟩
theorem host_result3 {fn : Func} {i j l : Tmp} (h : fn.results = #[.cell i 26, .tmp j, .tmp l]) (tmps : Array Value) (W : World) (B : Nat) (v1 v2 : Value) (vs : List Value) (hl : vs.length = 11)
  (hp : tmps[i]?.getD undef = .pointer (some ⟨B, 0, none⟩)) (hq : tmps[j]?.getD undef = v1) (hr : tmps[l]?.getD undef = v2) (ha : UAt W B vs) : (results fn tmps).run Tryz.prog W = .ok (.tuple #[.agg vs.toArray, v1, v2]) W := by
 obtain ⟨d, hd1, hd2⟩ := Tryz.rowHost
 have hrun := run_loadVar_mid (P := Tryz.prog) W B 0 26 vs d (ha.range 0 vs (fun j v hv => by rw [Nat.zero_add]; exact hv)) hd1 hd2 (by rw [hl]; exact Tryz.infoHost)
 simp [results, h, hp, hq, hr, asAddr, hrun]
def hRow0 : List Value := hRow 0 ⟨#[]⟩ 0 0 0 0 0 0 0 0 0
theorem implReadAuthority (A : ByteArray) (s : Int) (w : World) (hA : A.size ≤ 100000) (hs : s = 1 ∨ s = 2) (hT : Lib.Utf8Tabs 7 8 w) (hP : Pow w) (hD : Bruijn w) (hM : MaxI w) :
  Calls Tryz.prog 87 #[.string A, .int .i64 s] w fun e w' => e = .returned (.tuple #[hostVal (autR s A).2.1, .int .i64 (autR s A).2.2, errV (autR s A).1]) ∧ Below w.heap.size w w' := by
 have CC : Hid (∀ W, CS 130 #[.string A, .string ⟨#[64]⟩] W (.bool (A.data.toList.contains 64))) := fun W => by
  have h := Tryz.strings_Contains_one A 64 W
  rw [← Lib.contains_iff_indexByte] at h
  exact h.mono fun e w' h => ⟨h.1, h.2.symm⟩
 have HR : Hid (autR s A = if A.data.toList.contains 64 = true then (3, noneH, 0) else if 1 ≤ portN s (poB A) ∧ portN s (poB A) ≤ 65535 then (if rC (readH ⟨(hoB A).toArray⟩) = 0 then (0, rV (readH ⟨(hoB A).toArray⟩), portN s (poB A)) else (4, noneH, 0)) else (5, noneH, 0)) := rfl
 have CK : Hid (∀ W, Below w.heap.size w W → CB 131 #[.string A] W (.tuple #[.string ⟨(hoB A).toArray⟩, .string ⟨(poB A).toArray⟩])) := fun W hb => implCutPort A W (by omega) (max_below hM hb)
 have CR : Hid (∀ W, CS 132 #[.string ⟨(poB A).toArray⟩, .int .i64 s] W (if 1 ≤ portN s (poB A) ∧ portN s (poB A) ≤ 65535 then .tuple #[.int .i64 (portN s (poB A)), .nilIface] else .tuple #[.int .i64 0, .iface 62 (.agg #[.int .i64 5])])) := fun W => implReadPort ⟨(poB A).toArray⟩ s W hs
 have hho : (⟨(hoB A).toArray⟩ : ByteArray).size ≤ 100000 := by rw [size_mk]; have := ho_len A; omega
 have CH : Hid (∀ W, Below w.heap.size w W → CB 133 #[.string ⟨(hoB A).toArray⟩] W (.tuple #[hostVal (rV (readH ⟨(hoB A).toArray⟩)), .int .i64 (rC (readH ⟨(hoB A).toArray⟩))])) := fun W hb => implParseHost _ W (by omega) (tabs_below hT hb) (pow_below hP hb) (bruijn_below hD hb) (max_below hM hb)
 generalize autR s A = R at HR ⊢
 generalize (⟨(hoB A).toArray⟩ : ByteArray) = Ho at HR CK CH hho
 generalize portN s (poB A) = pn at HR CR
 generalize (⟨(poB A).toArray⟩ : ByteArray) = Po at CK CR
 generalize A.data.toList.contains 64 = b at CC HR
 clear hT hP hD hM
 obtain ⟨O, hO⟩ : ∃ O, O = w.alloc (.cells #[.int .i64 0, .string ⟨#[]⟩, .int .i64 0, .int .i64 0, .int .i64 0, .int .i64 0, .int .i64 0, .int .i64 0, .int .i64 0, .int .i64 0, .int .i64 0] 26) := ⟨_, rfl⟩
 have HU : Hid (PU w hRow0 O) := by
  rw [hO]
  exact PU.new w _ _
 go_enter Tryz.func87, Tryz.ntmps87
 go_upto_region 1 with fail
 rw [← hO]
 clear hO
 go_wp2_with fail
 refine (CC.out _).mono ?_
 rintro e w' ⟨rfl, rfl⟩
 clear CC
 cases b with
 | true =>
  have HZ : Hid (R = (3, noneH, 0)) := HR.out
  have HUU := HU
  clear HR
  go_wp2_with (refine host_st HUU.out.1 0 (Nat.le_refl 11) (us := hRow0) rfl (hRow_one ..) rfl _ _ rfl rfl rfl ?_; intro w9 HU9 HM9)
  refine bodyPost_ret (host_result3 rfl _ _ w.heap.size (.int .i64 0) (.iface 62 (.agg #[.int .i64 3])) _ rfl rfl rfl rfl HU9) rfl ⟨by rw [HZ.out]; rfl, HM9.2 _ _ (Nat.le_refl _) HUU.out.2⟩
 | false =>
  go_wp2_with fail
  refine (CK.out _ HU.out.2).mono ?_
  rintro e w1 ⟨rfl, hb1⟩
  have HU1 : Hid (PU w hRow0 w1) := HU.out.later hb1
  clear hb1 HU CK
  by_cases hp : 1 ≤ pn ∧ pn ≤ 65535
  ·have HR2 : Hid (R = if rC (readH Ho) = 0 then (0, rV (readH Ho), pn) else (4, noneH, 0)) := by
    show _ = _
    rw [HR.out, if_neg (by decide), if_pos hp]
   rw [if_pos hp] at CR
   clear HR
   go_wp2_with fail
   refine (CR.out _).mono ?_
   rintro e w' ⟨rfl, rfl⟩
   clear CR
   obtain ⟨k, n, nm, x0, x1, x2, x3, x4, x5, x6, x7, hhv⟩ : ∃ (k n : Int) (nm : ByteArray) (x0 x1 x2 x3 x4 x5 x6 x7 : Int), rV (readH Ho) = ⟨k, nm, n, [x0, x1, x2, x3, x4, x5, x6, x7]⟩ := by
    have h8 := readH_eight Ho
    generalize rV (readH Ho) = h at h8
    obtain ⟨k, nm, n, z⟩ := h
    match z, h8 with
    | [x0, x1, x2, x3, x4, x5, x6, x7], _ => exact ⟨k, n, nm, x0, x1, x2, x3, x4, x5, x6, x7, rfl⟩
   have CH2 : Hid (∀ W, Below w.heap.size w W → CB 133 #[.string Ho] W (.tuple #[.agg (hRow k nm n x0 x1 x2 x3 x4 x5 x6 x7).toArray, .int .i64 (rC (readH Ho))])) := fun W hb => by
    have h := CH.out W hb
    rw [hhv] at h
    exact h
   rw [hhv] at HR2
   clear CH hhv
   generalize rC (readH Ho) = rc at HR2 CH2
   go_wp2_with fail
   refine (CH2.out _ HU1.out.2).mono ?_
   rintro e w2 ⟨rfl, hb2⟩
   have HU2 : Hid (PU w hRow0 w2) := HU1.out.later hb2
   clear hb2 HU1 CH2
   have HU2a : Hid (PU w hRow0 (w2.alloc (.cells #[.int .i64 0, .string ⟨#[]⟩, .int .i64 0, .int .i64 0, .int .i64 0, .int .i64 0, .int .i64 0, .int .i64 0, .int .i64 0, .int .i64 0, .int .i64 0] 26))) := HU2.out.later ((Below.refl _ _).alloc (Nat.le_refl _) _)
   have hlt : w.heap.size < w2.heap.size := HU2.out.1.2.2
   go_upto_region 8 with (refine host_st (UAt.new w2 _ _) 0 (Nat.le_refl 11) (us := hRow k nm n x0 x1 x2 x3 x4 x5 x6 x7) rfl (hRow_one ..) rfl _ _ rfl rfl rfl ?_; intro w3 HUh HMh)
   have HU3 : Hid (PU w hRow0 w3) := HU2a.out.moved hlt HMh
   have HUH : Hid (UAt w3 w2.heap.size (hRow k nm n x0 x1 x2 x3 x4 x5 x6 x7)) := HUh
   clear HUh HMh HU2a HU2 hlt
   by_cases hr0 : rc = 0
   ·have HZ : Hid (R = (0, ⟨k, nm, n, [x0, x1, x2, x3, x4, x5, x6, x7]⟩, pn)) := by show _ = _; rw [HR2.out, if_pos hr0]
    subst hr0
    clear HR2
    go_wp2_with (first | (refine host_ld HUH.out 0 (hRow k nm n x0 x1 x2 x3 x4 x5 x6 x7) (fun j v hv => by rw [Nat.zero_add]; exact hv) rfl rfl _ rfl rfl ?_) | (refine host_st HU3.out.1 0 (Nat.le_refl 11) (us := hRow k nm n x0 x1 x2 x3 x4 x5 x6 x7) rfl (hRow_one ..) rfl _ _ rfl rfl rfl ?_; intro w9 HU9 HM9))
    refine bodyPost_ret (host_result3 rfl _ _ w.heap.size (.int .i64 pn) .nilIface _ rfl rfl rfl rfl HU9) rfl ⟨by rw [HZ.out]; rfl, HM9.2 _ _ (Nat.le_refl _) HU3.out.2⟩
   have HZ : Hid (R = (4, noneH, 0)) := by show _ = _; rw [HR2.out, if_neg hr0]
   have hrb : (rc != 0) = true := bne_iff_ne.2 hr0
   have HUU := HU3
   clear HR2 hr0
   go_wp2_with (refine host_st HUU.out.1 0 (Nat.le_refl 11) (us := hRow0) rfl (hRow_one ..) rfl _ _ rfl rfl rfl ?_; intro w9 HU9 HM9)
   refine bodyPost_ret (host_result3 rfl _ _ w.heap.size (.int .i64 0) (.iface 62 (.agg #[.int .i64 4])) _ rfl rfl rfl rfl HU9) rfl ⟨by rw [HZ.out]; rfl, HM9.2 _ _ (Nat.le_refl _) HUU.out.2⟩
  have HZ : Hid (R = (5, noneH, 0)) := by
   show _ = _
   rw [HR.out, if_neg (by decide), if_neg hp]
  rw [if_neg hp] at CR
  clear HR
  go_wp2_with fail
  refine (CR.out _).mono ?_
  rintro e w' ⟨rfl, rfl⟩
  clear CR
  have HUU := HU1
  go_wp2_with (refine host_st HUU.out.1 0 (Nat.le_refl 11) (us := hRow0) rfl (hRow_one ..) rfl _ _ rfl rfl rfl ?_; intro w9 HU9 HM9)
  refine bodyPost_ret (host_result3 rfl _ _ w.heap.size (.int .i64 0) (.iface 62 (.agg #[.int .i64 5])) _ rfl rfl rfl rfl HU9) rfl ⟨by rw [HZ.out]; rfl, HM9.2 _ _ (Nat.le_refl _) HUU.out.2⟩
end Go.Proofs.YtgmfkgeepecknaaGreatDoor
