/- MapTop. -/
import Derived.Test.YtfdgehlobbeomaaGreatDoorQM27
import Derived.Defers
import Derived.Recover
set_option maxHeartbeats 4000000
set_option maxRecDepth 100000
namespace Go.Proofs.YtfdgehlobbeomaaGreatDoor
open Go.RowKit
set_option linter.unusedVariables false
set_option linter.unusedSimpArgs false
theorem catchIdle(p q:Addr)(w:World):
  CallsD Tryz.prog 21 #[.pointer (some p),.pointer (some q)] .returning w fun e u' w'=>e=.returned (.tuple #[])∧u'=.returning∧w'=w:=by
 refine callsD_of_wpS Tryz.func21 rfl fun c₀ cs hu=> ?_
 apply wpS_seq
 apply wpS_region
 simp[wpOpsS,go_sem,recoverD,hu,Tryz.ntmps21,Exit.thenS]
 apply wpS_seq
 apply wpS_region
 simp[wpOpsS,go_sem,Exit.thenS]
 refine wpS_cond (t:=false) (by simp[Act.eval,Array.replicate]) ?_
 simp only[Bool.false_eq_true,if_false]
 refine wpS_of_wp (wp_skip ?_)
 cases c₀
 simp_all[bodyPostS,results,Tryz.results21]
theorem implParseSitemap(s:ByteArray)(b:Bool)(R:List EV)(w:World)(hs:s.size≤16777216)(hE:Esc w)(hM:MaxI w)(hz:(textsL (toksI s.data.toList).1).length≤16777216)(hl:(toksI s.data.toList).1.length≤1048576)(h:readM s.data.toList=.ok (b,R)):
  Calls Tryz.prog 8 #[.string s] w fun e w'=>(∃ao cap,e=.returned (.tuple #[.agg #[.bool b,.slice ao R.length cap],.int .i64 0])∧w'.ownsRow w.heap.size 32 2 (.slice ao R.length cap) R.length (ecells R))∧Below w.heap.size w w':=by
 have hmf: ∀(fn:Fn) (first cap:Array Value) (w:World),(Instr.makeFunc fn first cap).run Tryz.prog w=.ok (.func fn first cap) w:=fun _ _ _ _=>rfl
 obtain ⟨W0,hW0⟩: ∃W0,W0=(w.alloc (.cells #[.bool false,.slice none 0 0] 26)).alloc (.cells #[.int .i64 0] 3):=⟨_,rfl⟩
 have bW:Below w.heap.size w W0:=by rw[hW0];exact ((Below.refl _ _).alloc (Nat.le_refl _) _).alloc (by simp) _
 have AW:BAt W0 w.heap.size [.bool false,.slice none 0 0]:=by rw[hW0];exact (BAt.new w #[.bool false,.slice none 0 0] _).alloc _
 have AV:BAt W0 (w.heap.size+1) [.int .i64 0]:=by
  rw[hW0]
  have:=BAt.new (w.alloc (.cells #[.bool false,.slice none 0 0] 26)) #[.int .i64 0] 3
  rw[World.size_alloc]at this
  exact this
 have CR:=hidB (implReadSitemap s b R W0 hs (hE.later bW) (max_below hM bW) hz hl h)
 have hsW:W0.heap.size=w.heap.size+1+1:=by rw[hW0];simp
 have HSW:Hid (W0.heap.size=w.heap.size+1+1):=hsW
 clear hE hM hz hl h hsW
 go_enter_defers Tryz.func8,Tryz.ntmps8
 go_upto_region 2 with fail
 rw[←hW0]
 clear hW0
 have HAW:Hid (BAt W0 w.heap.size [.bool false,.slice none 0 0]):=AW
 have HAV:Hid (BAt W0 (w.heap.size+1) [.int .i64 0]):=AV
 clear AW AV
 go_wp2_with fail
 refine CR.out.mono ?_
 rintro e w1 ⟨⟨v1,rfl,o1⟩,b1⟩
 obtain ⟨eo,ec,rfl⟩:=(EntRow.of_own' o1).slice
 have HO1:Hid (w1.ownsRow W0.heap.size 32 2 (.slice eo R.length ec) R.length (ecells R)):=o1
 have B1:=bW.trans (b1.mono bW.size)
 have A1:=HAW.out.below b1
 have V1:=HAV.out.below b1
 have a0:=A1.1 0 _ rfl
 have a1:=A1.1 1 _ rfl
 have f0:=A1.2.1
 have v0:=V1.1 0 _ rfl
 have f1:=V1.2.1
 have A2:BAt (((w1.setCell ⟨w.heap.size,0,none⟩ (.bool b)).setCell ⟨w.heap.size,1,none⟩ (.slice eo R.length ec)).setCell ⟨w.heap.size+1,0,none⟩ (.int .i64 0)) w.heap.size [.bool b,.slice eo R.length ec]:=((A1.set 0 (by simp) (.bool b)).set 1 (by simp) (.slice eo R.length ec)).other (by omega) 0 _
 have V2:BAt (((w1.setCell ⟨w.heap.size,0,none⟩ (.bool b)).setCell ⟨w.heap.size,1,none⟩ (.slice eo R.length ec)).setCell ⟨w.heap.size+1,0,none⟩ (.int .i64 0)) (w.heap.size+1) [.int .i64 0]:=((V1.other (by omega) 0 _).other (by omega) 1 _).set 0 (by simp) (.int .i64 0)
 have HR2:Hid ((((w1.setCell ⟨w.heap.size,0,none⟩ (.bool b)).setCell ⟨w.heap.size,1,none⟩ (.slice eo R.length ec)).setCell ⟨w.heap.size+1,0,none⟩ (.int .i64 0)).ownsRow w.heap.size 32 2 (.slice eo R.length ec) R.length (ecells R)):=by
  have hsW:=HSW.out
  have k1:=own_put HO1.out (C:=w.heap.size) (by omega) 0 (.bool b)
  have k2:=own_put k1 (C:=w.heap.size) (by omega) 1 (.slice eo R.length ec)
  have k3:=own_put k2 (C:=w.heap.size+1) (by omega) 0 (.int .i64 0)
  exact own_base k3 (by omega)
 have HB2:Hid (Below w.heap.size w (((w1.setCell ⟨w.heap.size,0,none⟩ (.bool b)).setCell ⟨w.heap.size,1,none⟩ (.slice eo R.length ec)).setCell ⟨w.heap.size+1,0,none⟩ (.int .i64 0))):=((B1.setCell (p:=⟨w.heap.size,0,none⟩) (Nat.le_refl _) _).setCell (p:=⟨w.heap.size,1,none⟩) (Nat.le_refl _) _).setCell (p:=⟨w.heap.size+1,0,none⟩) (by simp) _
 have HA2:=hidB A2
 have HV2:=hidB V2
 clear A2 V2 o1 b1 CR
 go_wp2_with fail
 refine leaves_cons (f:=21) (args:= #[.pointer (some ⟨w.heap.size,0,none⟩),.pointer (some ⟨w.heap.size+1,0,none⟩)]) (by simp) (by simp[go_sem]) ?_
 refine (catchIdle _ _ _).mono ?_
 rintro e u' w'' ⟨rfl,rfl,rfl⟩
 have x0:=HA2.out.1 0 _ rfl
 have x1:=HA2.out.1 1 _ rfl
 have y0:=HV2.out.1 0 _ rfl
 have HRB:=And.intro HR2.out HB2.out
 clear HR2 HB2 HA2 HV2 a0 a1 f0 v0 f1 A1 V1 HO1
 generalize ((w1.setCell ⟨w.heap.size,0,none⟩ (.bool b)).setCell ⟨w.heap.size,1,none⟩ (.slice eo R.length ec)).setCell ⟨w.heap.size+1,0,none⟩ (.int .i64 0)=WF at*
 simp[Leaves,settle,results,Tryz.results8,go_sem,x0,x1,y0,Addr.add_lit]
 exact ⟨⟨eo,ec,⟨rfl,rfl⟩,HRB.1⟩,HRB.2⟩
end Go.Proofs.YtfdgehlobbeomaaGreatDoor
