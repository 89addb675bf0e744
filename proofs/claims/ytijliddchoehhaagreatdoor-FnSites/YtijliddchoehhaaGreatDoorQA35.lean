/- Draw10Site. -/
import Derived.Test.YtijliddchoehhaaGreatDoorQA32
import Derived.Test.YtijliddchoehhaaGreatDoorQA34
set_option maxHeartbeats 4000000
set_option maxRecDepth 100000
namespace Go.Proofs.YtijliddchoehhaaGreatDoor
open Go.RowKit
set_option linter.unusedVariables false
set_option linter.unusedSimpArgs false
theorem host_resultR{fn:Func}{p q:Tmp}(h:fn.results= #[.tmp q,.cell p 27])(tmps:Array Value)(W:World)(B:Nat)(v:Value)(k n:Int)(s:ByteArray)(x0 x1 x2 x3 x4 x5 x6 x7:Int)
  (hp:tmps[p]?.getD undef=.pointer (some ⟨B,0,none⟩)) (hq:tmps[q]?.getD undef=v) (ha:RowIs W B (hRow k s n x0 x1 x2 x3 x4 x5 x6 x7)):
  (results fn tmps).run Tryz.prog W=.ok (.tuple #[v,.agg #[.int .i64 k,.string s,.int .i64 n,.int .i64 x0,.int .i64 x1,.int .i64 x2,.int .i64 x3,.int .i64 x4,.int .i64 x5,.int .i64 x6,.int .i64 x7]]) W:=by
 have c0:=ha 0 _ rfl
 have c1:=ha 1 _ rfl
 have c2:=ha 2 _ rfl
 have c3:=ha 3 _ rfl
 have c4:=ha 4 _ rfl
 have c5:=ha 5 _ rfl
 have c6:=ha 6 _ rfl
 have c7:=ha 7 _ rfl
 have c8:=ha 8 _ rfl
 have c9:=ha 9 _ rfl
 have c10:=ha 10 _ rfl
 simp[results,h,hp,hq,asAddr,go_sem,c0,c1,c2,c3,c4,c5,c6,c7,c8,c9,c10,Addr.add_lit]
theorem ans_put{W:World}{base C:Nat}{v:Value}{l:List RV}(h:RuleAns W base v l)(hC:C<base)(j:Nat)(x:Value):RuleAns (W.setCell ⟨C,j,none⟩ x) base v l:=h.grown (put_grown W C j x) hC
theorem drawSite(ao:Option Addr)(len cap:Nat)(w:World)(hl:len≤1048576)(hcode:CodeRow w.heap.size w ao len):
  Calls Tryz.prog 6 #[.slice ao len cap] w fun e w'=> ∃(v:Value) (l:List RV) (k n:Int) (s:ByteArray) (x0 x1 x2 x3 x4 x5 x6 x7:Int),(rulesB l=true∧s.size≤1048576∧hOk ⟨k,s,n,[x0,x1,x2,x3,x4,x5,x6,x7]⟩=true)∧e=.returned (.tuple #[v,.agg #[.int .i64 k,.string s,.int .i64 n,.int .i64 x0,.int .i64 x1,.int .i64 x2,.int .i64 x3,.int .i64 x4,.int .i64 x5,.int .i64 x6,.int .i64 x7]])∧RuleRow w' v l∧Below w.heap.size w w':=by
 obtain ⟨O,hO⟩: ∃O,O=w.alloc (.cells #[.int .i64 0,.string ⟨#[]⟩,.int .i64 0,.int .i64 0,.int .i64 0,.int .i64 0,.int .i64 0,.int .i64 0,.int .i64 0,.int .i64 0,.int .i64 0] 27):=⟨_,rfl⟩
 have HCO:Hid (CodeRow O.heap.size O ao len):=by rw[hO];exact hcode.later ((Below.refl _ w).alloc (Nat.le_refl _) _)
 have HB:Hid (Below w.heap.size w O):=by rw[hO];exact (Below.refl _ w).alloc (Nat.le_refl _) _
 have HH:Hid (O.heap[w.heap.size]? =some (.cells #[.int .i64 0,.string ⟨#[]⟩,.int .i64 0,.int .i64 0,.int .i64 0,.int .i64 0,.int .i64 0,.int .i64 0,.int .i64 0,.int .i64 0,.int .i64 0] 27 (0,0))):=by rw[hO];exact heap_alloc_new w _
 have HS:Hid (w.heap.size<O.heap.size):=by show _<_;rw[hO];simp
 clear hcode
 go_enter Tryz.func6,Tryz.ntmps6
 go_wp2_with fail
 rw[←hO]
 refine (l1New _ _ _ _ hl HCO.out).mono ?_
 rintro e wa ⟨B,rfl,hBw,ca,ba⟩
 have CA:Hid (Cur O.heap.size B ao len cap wa):=ca
 have BA:Hid (Below w.heap.size w wa):=HB.out.trans (ba.mono HB.out.size)
 have HA:Hid (wa.heap[w.heap.size]? =some (.cells #[.int .i64 0,.string ⟨#[]⟩,.int .i64 0,.int .i64 0,.int .i64 0,.int .i64 0,.int .i64 0,.int .i64 0,.int .i64 0,.int .i64 0,.int .i64 0] 27 (0,0))):=(ba.block _ HS.out).trans HH.out
 have SA:Hid (w.heap.size<wa.heap.size):=Nat.lt_of_lt_of_le HS.out ba.size
 have hBg:w.heap.size<B:=by have:=HS.out;omega
 have hBa:=ca.lt
 clear ca ba HCO HB HH hO
 go_wp2_with fail
 refine (l10Draw _ _ _ _ _ _ CA.out).mono ?_
 rintro e wb ⟨v,l,hr,rfl,rb,cb,gb⟩
 have CB:Hid (Cur O.heap.size B ao len cap wb):=cb
 have BB:Hid (Below w.heap.size w wb):=BA.out.grown gb BA.out.size (fun k hk=>by cases hk;omega)
 have HB2:Hid (wb.heap[w.heap.size]? =some (.cells #[.int .i64 0,.string ⟨#[]⟩,.int .i64 0,.int .i64 0,.int .i64 0,.int .i64 0,.int .i64 0,.int .i64 0,.int .i64 0,.int .i64 0,.int .i64 0] 27 (0,0))):=(gb.block _ SA.out (by intro h;cases h;omega)).trans HA.out
 have SB:Hid (w.heap.size<wb.heap.size):=Nat.lt_of_lt_of_le SA.out gb.size
 have RB:=hidden rb
 have HR9:=hidden hr
 obtain ⟨vao,vcap,rfl⟩:=rb.row.slice
 clear cb gb CA BA HA rb hr
 go_wp2_with fail
 refine (l6Host _ _ _ _ _ _ CB.out).mono ?_
 rintro e wc ⟨k,n,s,x0,x1,x2,x3,x4,x5,x6,x7,hs,rfl,cc,gc⟩
 have BC:Hid (Below w.heap.size w wc):=BB.out.grown gc BB.out.size (fun k hk=>by cases hk;omega)
 have hz:=none_of_heap ((gc.block _ SB.out (by intro h;cases h;omega)).trans HB2.out)
 have HR:Hid (RowIs wc w.heap.size (hRow 0 ⟨#[]⟩ 0 0 0 0 0 0 0 0 0)):=row_of_none hz.1
 have RC:Hid (RuleAns wc wa.heap.size (.slice vao l.length vcap) l):=RB.out.grown gc hBa
 obtain ⟨⟨c0,c1,c2,c3,c4,c5,c6,c7,c8,c9,c10⟩,fz⟩:=hz
 have HSS:=hidden hs
 have SA2:=SA.out
 clear cc gc CB BB HB2 SB RB hs
 go_wp2_with fail
 refine bodyPost_ret (host_resultR rfl _ _ w.heap.size (.slice vao l.length vcap) k n s x0 x1 x2 x3 x4 x5 x6 x7 rfl rfl (host_store HR.out k n s x0 x1 x2 x3 x4 x5 x6 x7)) rfl ⟨_,l,k,n,s,x0,x1,x2,x3,x4,x5,x6,x7,⟨HR9.out,HSS.out.1,HSS.out.2⟩,rfl,?_,below_hstore BC.out (Nat.le_refl _) k n s x0 x1 x2 x3 x4 x5 x6 x7⟩
 exact (ans_put (ans_put (ans_put (ans_put (ans_put (ans_put (ans_put (ans_put (ans_put (ans_put (ans_put RC.out SA2 0 _) SA2 1 _) SA2 2 _) SA2 3 _) SA2 4 _) SA2 5 _) SA2 6 _) SA2 7 _) SA2 8 _) SA2 9 _) SA2 10 _).row
end Go.Proofs.YtijliddchoehhaaGreatDoor
