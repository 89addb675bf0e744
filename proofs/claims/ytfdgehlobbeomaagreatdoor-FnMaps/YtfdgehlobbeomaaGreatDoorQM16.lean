/- Bits, PutWalk, UntilWalk, UnWalk, XmlSpec1, PutRunesWalk. -/
import Derived.Laws.BitsAllLaws
import Derived.Test.YtfdgehlobbeomaaGreatDoorQM08
import Derived.Lib.AppendStr
set_option maxHeartbeats 2000000
namespace Go.Proofs.YtfdgehlobbeomaaGreatDoor
end Go.Proofs.YtfdgehlobbeomaaGreatDoor
namespace Go.Proofs.YtfdgehlobbeomaaGreatDoor
open Go.RowKit
theorem enc_cells(r:Int):Lib.runeCells r=bcells (Lib.encodeRune r):=by
 rw[←Lib.byteCells_encodeRune]
 rfl
theorem enc_length(r:Int):1≤(Lib.encodeRune r).length∧(Lib.encodeRune r).length≤4:=by
 have:=Lib.runeCells_le r
 rw[Lib.runeCells_length]at this
 exact this
theorem implIsRune_yes(r:Int)(w:World)(h:runeOk r):
  Calls Tryz.prog 136 #[.int .i64 r] w fun e w'=>e=.returned (.bool true)∧w=w':=by
 obtain ⟨h0,h1,h2⟩:=h
 by_cases a:r<55296
 ·clear h2
  go_enter Tryz.func136,Tryz.ntmps136
  go_wp2
  go_ret
  exact ⟨rfl,rfl⟩
 have b:57343<r:=by omega
 clear h2
 go_enter Tryz.func136,Tryz.ntmps136
 go_wp2
 go_ret
 exact ⟨ret_bool (by simp<;>omega),rfl⟩
theorem implIsRune_no(r:Int)(w:World)(h: ¬runeOk r):
  Calls Tryz.prog 136 #[.int .i64 r] w fun e w'=>e=.returned (.bool false)∧w=w':=by
 unfold runeOk at h
 by_cases a:r<0
 ·clear h
  go_enter Tryz.func136,Tryz.ntmps136
  go_wp2
  go_ret
  exact ⟨rfl,rfl⟩
 by_cases b:1114111<r
 ·clear h
  go_enter Tryz.func136,Tryz.ntmps136
  go_wp2
  go_ret
  exact ⟨rfl,rfl⟩
 have c:55296≤r:=by omega
 have d:r≤57343:=by omega
 clear h
 go_enter Tryz.func136,Tryz.ntmps136
 go_wp2
 go_ret
 exact ⟨ret_bool (by simp<;>omega),rfl⟩

theorem own_byte{w1:World}{B:Nat}{e:TypeId}{v:Value}{o:List UInt8}{x:Int}(c:UInt8)(hx:x=(c.toNat:Int))
  (h:w1.ownsRow B e 1 v (o.length+1) (bcells o++ #[Value.int .u8 x].toList)):w1.ownsRow B e 1 v (o++[c]).length (bcells (o++[c])):=by
 subst hx
 rw[bcells_snoc,List.length_append]
 exact h
theorem byte_one(x:Int): ∀u∈ #[Value.int .u8 x].toList,u.oneCell'=true:=by
 intro u hu;simp at hu;subst hu;rfl
end Go.Proofs.YtfdgehlobbeomaaGreatDoor
namespace Go.Proofs.YtfdgehlobbeomaaGreatDoor
open Go.RowKit
set_option linter.unusedVariables false
theorem escL_take{s:ByteArray}{k:Nat}(h:k<s.size):escL (s.data.toList.take (k+1))=escL (s.data.toList.take k)++escC (s[k]'h):=by
 unfold escL
 rw[take_snoc s k h,List.flatMap_append]
 simp
theorem own_text{w1:World}{B:Nat}{e:TypeId}{v:Value}{o:List UInt8}(x:ByteArray){m:List UInt8}(hm:x.data.toList=m)(h:w1.ownsRow B e 1 v (o.length+x.size) (bcells o++Lib.strCells x)):w1.ownsRow B e 1 v (o++m).length (bcells (o++m)):=by
 subst hm
 rw[bcells_append,List.length_append]
 have:x.data.toList.length=x.size:=by simp
 rw[this]
 exact h
def unA(r:Option (List UInt8)):Value:=match r with
 |some t=> .tuple #[.string ⟨t.toArray⟩,.bool true]
 |none=> .tuple #[.string ⟨#[]⟩,.bool false]
end Go.Proofs.YtfdgehlobbeomaaGreatDoor
namespace Go.Proofs.YtfdgehlobbeomaaGreatDoor
open Go.RowKit
def encAll(l:List Int):List UInt8:=l.flatMap Lib.encodeRune
theorem encAll_snoc(l:List Int)(r:Int):encAll (l++[r])=encAll l++Lib.encodeRune r:=by simp[encAll]
theorem encAll_le(l:List Int):(encAll l).length≤4*l.length:=by
 induction l with
 |nil=>simp[encAll]
 |cons r l ih=>
  have:=enc_length r
  have e:encAll (r::l)=Lib.encodeRune r++encAll l:=by simp[encAll]
  rw[e,List.length_append,List.length_cons]
  omega
def allOk(l:List Int):Prop:= ∀r∈l,runeOk r
theorem allOk_at{l:List Int}(h:allOk l)(k:Nat)(hk:k<l.length):runeOk (l.getD k 0):=by
 rw[List.getD_eq_getElem?_getD,List.getElem?_eq_getElem hk]
 exact h _ (List.getElem_mem hk)
theorem implPutRunes_ok(zl:List Int)(n:Nat)(v:Value)(B:Nat)(w:World)(hn:n≤1048576)(hok:allOk zl)(hown0:w.ownsRow B 3 1 v n (icells zl)):
  Calls Tryz.prog 134 #[v] w fun e w'=>e=.returned (.tuple #[.string ⟨(encAll zl).toArray⟩,.bool true])∧Below w.heap.size w w':=by
 have hl:zl.length=n:=by simpa[icells_length] using hown0.1
 have HL:Hid (zl.length=n):=hl
 have HOK:Hid (allOk zl):=hok
 clear hl hok
 obtain ⟨i0,hi,hz0,hz1,hz2⟩:=info_parts Tryz.info5
 rcases own_shape hown0 with ⟨hz,hxs,ao,cap,rfl⟩|⟨hp,g,cap,rfl⟩
 ·have he:zl=[]:=by simpa[icells] using hxs
  subst hz
  clear hxs hown0
  go_enter Tryz.func134,Tryz.ntmps134
  go_wp2_with (at_make;refine wpList_make_own _ rfl _ _ 22 rfl w.heap.size 5 i0 (.int .u8 0) 1 Tryz.underlying22 hi hz0 hz1 _ _ _ 0 rfl rfl (by omega) (by rw[hz2];omega) (by unfold maxLen;omega) (Nat.le_refl _) ?_)
  intro wm hmo hgm
  have Bm:Below w.heap.size w wm:=(Below.refl _ _).grown hgm (Nat.le_refl _) (fun k hk=>by cases hk)
  clear hgm
  have HO:=run_string_own (P:=Tryz.prog) wm 22 9 5 Tryz.underlying22 Tryz.underlying5 Tryz.underlying9 (l:=[]) hmo
  go_wp2
  refine wp_loop_rounds 1 ?_
  rw[rounds_succ]
  go_wp2
  go_ret2
  exact ⟨by subst he;rfl,Bm⟩
 go_enter Tryz.func134,Tryz.ntmps134
 go_wp2_with (at_make;refine wpList_make_own _ rfl _ _ 22 rfl w.heap.size 5 i0 (.int .u8 0) 1 Tryz.underlying22 hi hz0 hz1 _ _ _ n rfl rfl (by omega) (by rw[hz2];omega) (by unfold maxLen;omega) (Nat.le_refl _) ?_)
 intro wm hmo hgm
 have Bm:Below w.heap.size w wm:=(Below.refl _ _).grown hgm (Nat.le_refl _) (fun k hk=>by cases hk)
 clear hgm
 go_wp2
 go_loopw[4,12] (fun u i wr=> ∃k:Nat,k≤n∧i=.int .i64 k∧wr.ownsRow w.heap.size 5 1 u (encAll (zl.take k)).length (bcells (encAll (zl.take k)))∧Below w.heap.size w wr)
  (fun _ i _=>n-(intOf i).toNat)
 case atStart=>exact ⟨0,Nat.zero_le _,rfl,hmo,Bm⟩
 obtain ⟨k,hk,rfl,hown,hbel⟩:=hrel
 have hsz:=hbel.size
 by_cases hlt:k<n
 ·have ca:=icell_at (own_below hown0 hbel) k hlt
  have HS:Hid (encAll (zl.take (k+1))=encAll (zl.take k)++Lib.encodeRune (zl.getD k 0)):=by
   show _=_
   rw[ztake_snoc zl k (by have:=HL.out;omega),encAll_snoc]
  have hle:=encAll_le (zl.take k)
  have hle2:(zl.take k).length≤k:=List.length_take_le _ _
  have hr:=allOk_at HOK.out k (by have:=HL.out;omega)
  generalize zl.getD k 0=r at ca hr HS
  have HR:Hid (runeOk r):=hr
  have hr0:0≤r:=hr.1
  have hr1:r≤1114111:=hr.2.1
  clear hr
  go_wp2_with fail
  refine (implIsRune_yes r _ HR.out).mono ?_
  rintro e w' ⟨rfl,rfl⟩
  go_wp2_with fail
  refine (Tryz.utf8_AppendRune_plain w.heap.size _ _ _ r (by have:=HR.out.1;omega) (by have:=HR.out.2.1;omega) _ hown (by omega) hsz).mono ?_
  rintro e w1 ⟨v',rfl,hown',o,hb1⟩
  have R:w1.ownsRow w.heap.size 5 1 v' (encAll (zl.take (k+1))).length (bcells (encAll (zl.take (k+1)))):=by
   rw[HS.out,List.length_append,bcells_append,←enc_cells,←Lib.runeCells_length];exact hown'
  have B1:Below w.heap.size w w1:=(hbel.alloc hsz o).grown hb1 (by simp;omega) (fun k hk=>(hown.lt k hk).1)
  clear hown' hown hb1 hbel
  go_wp2
  go_roundw
  case rel=>exact ⟨k+1,by omega,by go_num,R,B1⟩
  case measure=>simp[intOf];omega
 have HO:=run_string_own (P:=Tryz.prog) wr 22 9 5 Tryz.underlying22 Tryz.underlying5 Tryz.underlying9 hown
 go_wp2
 go_ret2
 refine ⟨?_,hbel⟩
 rw[List.take_of_length_le (by have:=HL.out;omega)]
 rfl
theorem implPutRunes_no(zl:List Int)(n:Nat)(v:Value)(B:Nat)(w:World)(hn:n≤1048576)(hok: ¬allOk zl)(hown0:w.ownsRow B 3 1 v n (icells zl)):
  Calls Tryz.prog 134 #[v] w fun e w'=>e=.returned (.tuple #[.string ⟨#[]⟩,.bool false])∧Below w.heap.size w w':=by
 have hl:zl.length=n:=by simpa[icells_length] using hown0.1
 have HL:Hid (zl.length=n):=hl
 have HOK:Hid (¬allOk zl):=hok
 clear hl hok
 obtain ⟨i0,hi,hz0,hz1,hz2⟩:=info_parts Tryz.info5
 rcases own_shape hown0 with ⟨hz,hxs,ao,cap,rfl⟩|⟨hp,g,cap,rfl⟩
 ·have he:zl=[]:=by simpa[icells] using hxs
  exact absurd (fun r hr=>by rw[he]at hr;simp at hr) HOK.out
 go_enter Tryz.func134,Tryz.ntmps134
 go_wp2_with (at_make;refine wpList_make_own _ rfl _ _ 22 rfl w.heap.size 5 i0 (.int .u8 0) 1 Tryz.underlying22 hi hz0 hz1 _ _ _ n rfl rfl (by omega) (by rw[hz2];omega) (by unfold maxLen;omega) (Nat.le_refl _) ?_)
 intro wm hmo hgm
 have Bm:Below w.heap.size w wm:=(Below.refl _ _).grown hgm (Nat.le_refl _) (fun k hk=>by cases hk)
 clear hgm
 go_wp2
 go_loopw[4,12] (fun u i wr=> ∃k:Nat,k≤n∧i=.int .i64 k∧wr.ownsRow w.heap.size 5 1 u (encAll (zl.take k)).length (bcells (encAll (zl.take k)))∧Below w.heap.size w wr∧allOk (zl.take k))
  (fun _ i _=>n-(intOf i).toNat)
 case atStart=>exact ⟨0,Nat.zero_le _,rfl,hmo,Bm,fun r hr=>by simp at hr⟩
 obtain ⟨k,hk,rfl,hown,hbel,hall⟩:=hrel
 have hsz:=hbel.size
 have HA:Hid (allOk (zl.take k)):=hall
 clear hall
 by_cases hlt:k<n
 ·have ca:=icell_at (own_below hown0 hbel) k hlt
  have HS:Hid (encAll (zl.take (k+1))=encAll (zl.take k)++Lib.encodeRune (zl.getD k 0)):=by
   show _=_
   rw[ztake_snoc zl k (by have:=HL.out;omega),encAll_snoc]
  have hle:=encAll_le (zl.take k)
  have hle2:(zl.take k).length≤k:=List.length_take_le _ _
  by_cases hr:runeOk (zl.getD k 0)
  ·have HN:Hid (allOk (zl.take (k+1))):=by
    show allOk _
    rw[ztake_snoc zl k (by have:=HL.out;omega)]
    intro r h
    rcases List.mem_append.1 h with h|h
    ·exact HA.out r h
    rw[List.mem_singleton.1 h];exact hr
   generalize zl.getD k 0=r at ca hr HS
   have HR:Hid (runeOk r):=hr
   have hr0:0≤r:=hr.1
   have hr1:r≤1114111:=hr.2.1
   clear hr
   go_wp2_with fail
   refine (implIsRune_yes r _ HR.out).mono ?_
   rintro e w' ⟨rfl,rfl⟩
   go_wp2_with fail
   refine (Tryz.utf8_AppendRune_plain w.heap.size _ _ _ r (by have:=HR.out.1;omega) (by have:=HR.out.2.1;omega) _ hown (by omega) hsz).mono ?_
   rintro e w1 ⟨v',rfl,hown',o,hb1⟩
   have R:w1.ownsRow w.heap.size 5 1 v' (encAll (zl.take (k+1))).length (bcells (encAll (zl.take (k+1)))):=by
    rw[HS.out,List.length_append,bcells_append,←enc_cells,←Lib.runeCells_length];exact hown'
   have B1:Below w.heap.size w w1:=(hbel.alloc hsz o).grown hb1 (by simp;omega) (fun k hk=>(hown.lt k hk).1)
   clear hown' hown hb1 hbel
   go_wp2
   go_roundw
   case rel=>exact ⟨k+1,by omega,by go_num,R,B1,HN.out⟩
   case measure=>simp[intOf];omega
  generalize zl.getD k 0=r at ca hr HS
  have HR:Hid (¬runeOk r):=hr
  clear hr
  go_wp2_with fail
  refine (implIsRune_no r _ HR.out).mono ?_
  rintro e w' ⟨rfl,rfl⟩
  go_wp2
  go_ret2
  exact ⟨rfl,hbel⟩
 refine absurd ?_ HOK.out
 have h:=HA.out
 rw[List.take_of_length_le (by have:=HL.out;omega)]at h
 exact h
end Go.Proofs.YtfdgehlobbeomaaGreatDoor
