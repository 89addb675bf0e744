/- TokSpec1, TokSpec2, FieldsWalk, BalSpec, TokBack, TokLawP, TokCode. -/
import Derived.Test.YtfdgehlobbeomaaGreatDoorQM04
import Derived.Handy
import Derived.Deep.DeepCutAuto
import Derived.Deep.CutBlock
import Derived.Deep.QuietTactic
namespace Go.Proofs.YtfdgehlobbeomaaGreatDoor
open Go.RowKit
end Go.Proofs.YtfdgehlobbeomaaGreatDoor
namespace Go.Proofs.YtfdgehlobbeomaaGreatDoor
open Go.RowKit
set_option linter.unusedVariables false
theorem while_len{p:UInt8→Bool}{l:List UInt8}{j:Nat}(hj:j≤l.length)(h: ∀c∈l.take j,p c=true)(he:j=l.length∨ ∃c,l[j]? =some c∧p c=false):(l.takeWhile p).length=j:=by
 rw[(while_cut h).1,List.length_append,List.length_take,Nat.min_eq_left hj]
 rcases he with he|⟨c,hc,hp⟩
 ·rw[List.drop_eq_nil_of_le (by omega)]
  rfl
 have hlt:j<l.length:=by
  rcases Nat.lt_or_ge j l.length with h1|h1
  ·exact h1
  rw[List.getElem?_eq_none h1]at hc;cases hc
 rw[List.drop_eq_getElem_cons hlt,List.takeWhile_cons]
 rw[List.getElem?_eq_getElem hlt]at hc
 injection hc with hc
 rw[hc,if_neg (by rw[hp];decide)]
 rfl
theorem name_len{r:List UInt8}{j:Nat}(hj:j≤r.length)(h41:j≤41)(h: ∀c∈r.take j,nmB c=true)(he:j=r.length∨j=41∨ ∃c,r[j]? =some c∧nmB c=false):nameN r=if j=41 then 0 else j:=by
 have:((r.take 41).takeWhile nmB).length=j:=by
  refine while_len (by rw[List.length_take];omega) (by rw[List.take_take,Nat.min_eq_left h41];exact h) ?_
  rw[List.length_take]
  by_cases h4:j=41
  ·exact .inl (by omega)
  rcases he with he|he|⟨c,hc,hp⟩
  ·exact .inl (by omega)
  ·exact absurd he h4
  exact .inr ⟨c,by rw[List.getElem?_take,if_pos (by omega)];exact hc,hp⟩
 unfold nameN
 rw[this]
def TokA(w:World)(a:Nat)(m:MR)(e:Ending)(w':World):Prop:= ∃v,e=.returned (.tuple #[v,.int .i64 (nxt a m),.int .i64 (m.code:Int)])∧w'.ownsRow w.heap.size 74 2 v m.ts.length (tcells m.ts)∧Below w.heap.size w w'
theorem TokA.same{w:World}{a:Nat}{m m':MR}{e:Ending}{w':World}(h:TokA w a m e w')(hm:m=m'):TokA w a m' e w':=hm▸h
theorem TokA.none{w:World}{a c:Nat}(hc:c≠0):TokA w a (noMR c) (.returned (.tuple #[.slice (some ⟨w.heap.size,0,none⟩) 0 0,.int .i64 0,.int .i64 (c:Int)])) (w.alloc (.cells #[] 74)):=
 ⟨_,by unfold nxt noMR;rw[if_neg hc],World.ownsRow_lit w #[] 0 (Nat.le_refl _) (by decide) rfl,(Below.refl _ _).alloc (Nat.le_refl _) _⟩
end Go.Proofs.YtfdgehlobbeomaaGreatDoor
namespace Go.Proofs.YtfdgehlobbeomaaGreatDoor
open Go.RowKit
theorem Tryz.infoStr:(Tryz.prog.info? 9).map (fun i=>(i.zero,i.size,i.bytes))=some (some (.string ⟨#[]⟩),1,16):=by kernel_rfl
theorem str_one(s:ByteArray): ∀u∈ #[Value.string s].toList,u.oneCell'=true:=by
 intro u hu;simp at hu;subst hu;rfl
end Go.Proofs.YtfdgehlobbeomaaGreatDoor
namespace Go.Proofs.YtfdgehlobbeomaaGreatDoor
open Go.RowKit
set_option linter.unusedVariables false
def balS:List ByteArray→List TV→Bool
 |st,[]=>st.isEmpty
 |st,t::r=>if t.k=1 then balS (t.s::st) r else if t.k=2 then (match st with
  |[]=>false
  |x::st'=>if x=t.s then balS st' r else false)else balS st r
def balL(l:List TV):Bool:=balS [] l
theorem bal_open{st:List ByteArray}{t:TV}{r:List TV}(h:t.k=1):balS st (t::r)=balS (t.s::st) r:=by
 rw[balS.eq_def]
 dsimp only
 rw[if_pos h]
theorem bal_text{st:List ByteArray}{t:TV}{r:List TV}(h:t.k≠1)(h2:t.k≠2):balS st (t::r)=balS st r:=by
 rw[balS.eq_def]
 dsimp only
 rw[if_neg h,if_neg h2]
theorem bal_none{t:TV}{r:List TV}(h:t.k=2):balS [] (t::r)=false:=by
 rw[balS.eq_def]
 dsimp only
 rw[if_neg (by rw[h];decide),if_pos h]
theorem bal_close{x:ByteArray}{st:List ByteArray}{t:TV}{r:List TV}(h:t.k=2):balS (x::st) (t::r)=if x=t.s then balS st r else false:=by
 rw[balS.eq_def]
 dsimp only
 rw[if_neg (by rw[h];decide),if_pos h]
theorem tok_drop{l:List TV}{k:Nat}(h:k<l.length):l.drop k=l.getD k tv0::l.drop (k+1):=by
 rw[List.drop_eq_getElem_cons h,List.getD_eq_getElem?_getD,List.getElem?_eq_getElem h]
 rfl
end Go.Proofs.YtfdgehlobbeomaaGreatDoor
namespace Go.Proofs.YtfdgehlobbeomaaGreatDoor
open Go.RowKit
theorem takeW_app{p:UInt8→Bool}{r t:List UInt8}{c:UInt8}(hc:p c=false):(r++c::t).takeWhile p=r.takeWhile p:=by
 induction r with
 |nil=>simp[hc]
 |cons a r ih=>simp only[List.cons_append,List.takeWhile_cons,ih]
theorem name_alt(r:List UInt8):nameN r=if 41≤(r.takeWhile nmB).length then 0 else (r.takeWhile nmB).length:=by
 obtain ⟨j,hj⟩: ∃j,(r.takeWhile nmB).length=j:=⟨_,rfl⟩
 have hjl:j≤r.length:=by rw[←hj];exact (List.takeWhile_sublist _).length_le
 have hall: ∀c∈r.takeWhile nmB,nmB c=true:=fun c hc=>List.all_eq_true.1 List.all_takeWhile c hc
 have htk:r.take j=r.takeWhile nmB:=by
  rw[←hj]
  exact (List.prefix_iff_eq_take.1 (List.takeWhile_prefix _)).symm
 rw[hj]
 by_cases h:41≤j
 ·rw[if_pos h,name_len (j:=41) (by omega) (Nat.le_refl _) (fun c hc=>hall c (by
   rw[←htk]
   exact List.mem_of_mem_take (i:=41) (by rwa[List.take_take,Nat.min_eq_left h]))) (.inr (.inl rfl)),if_pos rfl]
 rw[if_neg h,name_len (j:=j) hjl (by omega) (by rw[htk];exact hall) ?_,if_neg (by omega)]
 by_cases he:j=r.length
 ·exact .inl he
 right;right
 have hd:r.drop j=r.dropWhile nmB:=by
  have h1:r.takeWhile nmB++r.dropWhile nmB=r:=List.takeWhile_append_dropWhile
  have h2:=congrArg (List.drop j) h1
  rw[List.drop_left' hj]at h2
  exact h2.symm
 have hlt:j<r.length:=by omega
 have h3:=List.head?_dropWhile_not nmB r
 rw[←hd,List.drop_eq_getElem_cons hlt,List.head?_cons]at h3
 exact ⟨r[j],List.getElem?_eq_getElem hlt,by simpa using h3⟩
theorem step_mark13{r:List UInt8}(h:r.head? =some 60):stepR r=markR r:=by unfold stepR;rw[if_pos h]
theorem step_text13{r:List UInt8}(h:r.head? ≠some 60):stepR r=match unF (upB 60 r)with
  |some t=>⟨[⟨3,bytesV t⟩],(upB 60 r).length,0⟩
  |none=>noMR 2:=by
 unfold stepR
 rw[if_neg h]
 cases unF (upB 60 r)<;>rfl

end Go.Proofs.YtfdgehlobbeomaaGreatDoor
namespace Go.Proofs.YtfdgehlobbeomaaGreatDoor
open Go.RowKit
set_option linter.unusedVariables false
def closeI(r:List UInt8):MR:=if r.contains 62=true then closeR r else noMR 1
def stepI(r:List UInt8):MR:=if Lib.hasPrefix r [60,47]=true then shMR 2 (closeI (r.drop 2))else stepR r
theorem close_has{r:List UInt8}(h:(closeR r).code=0):r.contains 62=true:=by
 unfold closeR at h
 split at h
 ·cases h
 split at h
 ·cases h
 rename_i h2
 have h3:r[closeE r]? =some 62:=Classical.byContradiction fun e=>h2 (.inr e)
 rw[List.contains_iff_exists_mem_beq]
 exact ⟨62,List.mem_of_getElem? h3,rfl⟩
theorem closeI_of{r:List UInt8}(h:(closeR r).code=0):closeI r=closeR r:=by unfold closeI;rw[if_pos (close_has h)]
theorem pre_close{r:List UInt8}(h:Lib.hasPrefix r [60,47]=true):stepR r=shMR 2 (closeR (r.drop 2)):=by
 obtain ⟨t,rfl⟩: ∃t,r=60::47::t:=by
  unfold Lib.hasPrefix at h
  obtain ⟨t,ht⟩:=List.isPrefixOf_iff_prefix.1 h
  exact ⟨t,ht.symm⟩
 rw[step_mark13 rfl]
 unfold markR
 rw[if_neg (by simp[Lib.hasPrefix,List.isPrefixOf]),if_neg (by simp[Lib.hasPrefix,List.isPrefixOf]),if_neg (by simp[Lib.hasPrefix,List.isPrefixOf]),if_pos h]
theorem stepI_of{r:List UInt8}(h:(stepR r).code=0):stepI r=stepR r:=by
 unfold stepI
 split
 ·rename_i hp
  rw[pre_close hp]at h⊢
  rw[closeI_of h]
 rfl
theorem stepI_back{r:List UInt8}(h:(stepI r).code=0):stepI r=stepR r:=by
 unfold stepI at h⊢
 split
 ·rename_i hp
  rw[if_pos hp]at h
  rw[pre_close hp]
  have h1:(closeI (r.drop 2)).code=0:=h
  unfold closeI at h1⊢
  split
  ·rfl
  rename_i hn
  rw[if_neg hn]at h1
  cases h1
 rfl
theorem stepI_le{r:List UInt8}(h:r≠[])(hc:(stepI r).code=0):1≤(stepI r).n∧(stepI r).n≤r.length:=by
 have e:=stepI_back hc
 rw[e]at hc⊢
 exact step_le h hc
def tokV:Nat→List TV→List UInt8→List TV×Nat
 |0,acc,_=>(acc,0)
 |_,acc,[]=>(acc,0)
 |n+1,acc,c::r=>if (stepI (c::r)).code≠0 then ([],(stepI (c::r)).code)else tokV n (acc++(stepI (c::r)).ts) ((c::r).drop (stepI (c::r)).n)
theorem tokV_fuel: ∀(n m:Nat) (acc:List TV) (l:List UInt8),l.length≤n→l.length≤m→tokV n acc l=tokV m acc l
 |0,m,acc,l,h,_=>by
  have:l=[]:=List.eq_nil_of_length_eq_zero (by omega)
  subst this
  cases m<;>rfl
 |n+1,0,acc,l,_,h=>by
  have:l=[]:=List.eq_nil_of_length_eq_zero (by omega)
  subst this
  rfl
 |n+1,m+1,acc,[],_,_=>rfl
 |n+1,m+1,acc,c::r,h1,h2=>by
  rw[tokV,tokV]
  split
  ·rfl
  rename_i hc
  have hs:=stepI_le (r:=c::r) (by simp) (by omega)
  exact tokV_fuel n m _ _ (by rw[List.length_drop];omega) (by rw[List.length_drop];omega)
def tokH(acc:List TV)(l:List UInt8):List TV×Nat:=tokV l.length acc l
theorem tokH_nil(acc:List TV):tokH acc []=(acc,0):=rfl
theorem tokH_bad{acc:List TV}{l:List UInt8}(h:l≠[])(hc:(stepI l).code≠0):tokH acc l=([],(stepI l).code):=by
 unfold tokH
 cases l with
 |nil=>exact absurd rfl h
 |cons c r=>rw[List.length_cons,tokV,if_pos hc]
theorem tokH_next{acc:List TV}{l:List UInt8}(h:l≠[])(hc:(stepI l).code=0):tokH acc l=tokH (acc++(stepI l).ts) (l.drop (stepI l).n):=by
 have hs:=stepI_le h hc
 unfold tokH
 cases l with
 |nil=>exact absurd rfl h
 |cons c r=>
  rw[List.length_cons,tokV,if_neg (by rw[hc];simp)]
  rw[List.length_cons]at hs
  exact tokV_fuel _ _ _ _ (by rw[List.length_drop,List.length_cons];omega) (Nat.le_refl _)
theorem tokH_step{acc:List TV}{l:List UInt8}(h:l≠[])(hc:(stepR l).code=0):tokH acc l=tokH (acc++(stepR l).ts) (l.drop (stepR l).n):=by
 have e:=stepI_of hc
 rw[tokH_next h (by rw[e];exact hc),e]
def endT(x:List TV×Nat):List TV×Nat:=if x.2≠0 then ([],x.2)else if 3000<x.1.length then ([],3)else x
def toksI(l:List UInt8):List TV×Nat:=endT (tokH [] l)
theorem step_two(r:List UInt8)(h:(stepR r).code=0):(stepR r).ts.length≤2:=by
 have hs: ∀r m,(skipR r m).ts.length≤2:=fun r m=>by unfold skipR;split<;>exact Nat.zero_le _
 have hc: ∀r,(cdataR r).ts.length≤2:=fun r=>by
  unfold cdataR
  split
  ·exact Nat.zero_le _
  split
  ·exact Nat.zero_le _
  exact (by decide:1≤2)
 have hcl: ∀r,(closeR r).ts.length≤2:=fun r=>by
  unfold closeR
  split
  ·exact Nat.zero_le _
  split
  ·exact Nat.zero_le _
  exact (by decide:1≤2)
 have ho: ∀r,(openR r).ts.length≤2:=fun r=>by
  unfold openR
  split
  ·exact Nat.zero_le _
  split
  ·exact Nat.zero_le _
  dsimp only
  split
  ·exact (by decide:2≤2)
  exact (by decide:1≤2)
 unfold stepR
 split
 ·unfold markR
  split
  ·exact hs _ _
  split
  ·exact hs _ _
  split
  ·exact hc _
  split
  ·exact hcl _
  exact ho _
 split
 ·exact (by decide:1≤2)
 exact Nat.zero_le _
end Go.Proofs.YtfdgehlobbeomaaGreatDoor
