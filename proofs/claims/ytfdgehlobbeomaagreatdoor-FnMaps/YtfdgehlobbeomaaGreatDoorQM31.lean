/- MapLaw. -/
import Derived.Test.YtfdgehlobbeomaaGreatDoorQM28
import Derived.Test.YtfdgehlobbeomaaGreatDoorQM30
namespace Go.Proofs.YtfdgehlobbeomaaGreatDoor
open Go.RowKit
set_option linter.unusedVariables false
theorem EntRow.at{w:World}{ao:Option Addr}{n cap:Nat}{l:List EV}(h:EntRow w (.slice ao n cap) l){k:Nat}(hk:k<l.length): ∃g off,ao=some ⟨g,off,none⟩∧w.cell? ⟨g,off+k*2,none⟩=some (.string (l.getD k ev0).s)∧w.cell? ⟨g,off+k*2+1,none⟩=some (.int .i64 (l.getD k ev0).k):=by
 rcases h with ⟨h,_⟩|⟨_,g,off,c,h1,h2,h3⟩
 ·rw[h]at hk;exact absurd hk (Nat.not_lt_zero _)
 injection h1 with h1 _ _
 obtain ⟨e1,e2⟩:=h3 k hk
 exact ⟨g,off,h1,e1,e2⟩
theorem texts_most{M:Nat}: ∀{l:List TV},(∀t∈l,t.s.size≤M)→(textsL l).length≤M*l.length
 |[],_=>Nat.zero_le _
 |t::l,h=>by
  have ih:=texts_most (l:=l) fun x hx=>h x (List.mem_cons_of_mem _ hx)
  have e:textsL (t::l)=t.s.data.toList++textsL l:=by unfold textsL;rw[List.flatMap_cons]
  have h2:t.s.data.toList.length=t.s.size:=by simp
  have h3:=h t List.mem_cons_self
  rw[e,List.length_append,List.length_cons,Nat.mul_add,Nat.mul_one]
  omega
theorem ent_sizes{b:Bool}{e:EV}(h:e.s.size≤30): ∀t∈entK b e,t.s.size≤30:=by
 have h1:(bytesV (entN b)).size≤30:=by cases b<;>decide
 have h2:(bytesV nLoc).size≤30:=by decide
 have h3:(bytesV nPrio).size≤30:=by decide
 have h4:(bytesV (prioT e.k)).size≤30:=Nat.le_trans (prioV_size e.k) (by decide)
 intro t ht
 unfold entK at ht
 simp only[List.mem_cons,List.not_mem_nil,or_false]at ht
 rcases ht with rfl|rfl|rfl|rfl|rfl|rfl|rfl|rfl
 ·exact h1
 ·exact h2
 ·exact h
 ·exact h2
 ·exact h3
 ·exact h4
 ·exact h3
 exact h1
theorem map_sizes{b:Bool}{l:List EV}(h: ∀e∈l,e.s.size≤30): ∀t∈mapK b l,t.s.size≤30:=by
 have h1:(bytesV (rootN b)).size≤30:=by cases b<;>decide
 intro t ht
 unfold mapK at ht
 rcases List.mem_cons.1 ht with rfl|ht
 ·exact h1
 rcases List.mem_append.1 ht with ht|ht
 ·unfold entsK at ht
  obtain ⟨e,he,ht⟩:=List.mem_flatMap.1 ht
  exact ent_sizes (h e he) t ht
 rw[List.mem_singleton.1 ht]
 exact h1
theorem nice_of{l:List EV}(h: ∀e∈l,EntGood e):(∀e∈l,EntNice e)∧ ∀e∈l,e.s.size≤30:=⟨fun e he=>⟨(h e he).1,(h e he).2.1⟩,fun e he=>(h e he).2.2⟩
theorem sum_ents{l:List EV}(h: ∀e∈l,e.s.size≤30)(hl:l.length≤4):sumEn l≤1048576:=by
 have: ∀k,k≤l.length→psum (fun i=>(l.getD i ev0).s.size) k≤30*k:=by
  intro k
  induction k with
  |zero=>intro _;exact Nat.le_refl _
  |succ k ih=>
   intro hk
   have h1:=ih (by omega)
   have h2:(l.getD k ev0).s.size≤30:=h _ (by
    rw[List.getD_eq_getElem?_getD,List.getElem?_eq_getElem (by omega)]
    exact List.getElem_mem _)
   show psum _ k+(l.getD k ev0).s.size≤_
   omega
 have h1:=this l.length (Nat.le_refl _)
 unfold sumEn
 omega
theorem map_len{b:Bool}{l:List EV}(h: ∀e∈l,e.s.size≤30)(hl:l.length≤4):(mapT b l).length≤2000:=by
 have h1:=ents_len b l l.length (Nat.le_refl _)
 have h2:psum (fun i=>(l.getD i ev0).s.size) l.length≤120:=by
  have h3:=sum_ents h hl
  have: ∀k,k≤l.length→psum (fun i=>(l.getD i ev0).s.size) k≤30*k:=by
   intro k
   induction k with
   |zero=>intro _;exact Nat.le_refl _
   |succ k ih=>
    intro hk
    have h1:=ih (by omega)
    have h2:(l.getD k ev0).s.size≤30:=h _ (by
     rw[List.getD_eq_getElem?_getD,List.getElem?_eq_getElem (by omega)]
     exact List.getElem_mem _)
    show psum _ k+(l.getD k ev0).s.size≤_
    omega
  have:=this l.length (Nat.le_refl _)
  omega
 have h4:(rootN b).length≤12:=by cases b<;>decide
 rw[List.take_length]at h1
 unfold mapT entsT
 simp only[List.length_cons,List.length_append,List.length_nil]
 omega
theorem parseBack(b:Bool)(l:List EV)(w:World)(hE:Esc w)(hM:MaxI w)(hl:l.length≤4)(hg: ∀e∈l,EntGood e):
  Calls Tryz.prog 8 #[.string ⟨(mapT b l).toArray⟩] w fun e w'=>(∃ao cap,e=.returned (.tuple #[.agg #[.bool b,.slice ao l.length cap],.int .i64 0])∧w'.ownsRow w.heap.size 32 2 (.slice ao l.length cap) l.length (ecells l))∧Below w.heap.size w w':=by
 obtain ⟨h1,h2⟩:=nice_of hg
 have e:=toksI_map (b:=b) (l:=l) (fun x hx=>(h1 x hx).1) (by omega)
 have h3:=texts_most (map_sizes (b:=b) h2)
 have h4:=map_len (b:=b) h2 hl
 rw[mapK_len]at h3
 refine implParseSitemap ⟨(mapT b l).toArray⟩ b l w ?_ hE hM ?_ ?_ (read_map h1 (by omega))
 ·show (mapT b l).toArray.size≤_
  rw[List.size_toArray]
  omega
 ·show (textsL (toksI (mapT b l)).1).length≤_
  rw[e]
  show (textsL (mapK b l)).length≤_
  omega
 show (toksI (mapT b l)).1.length≤_
 rw[e]
 show (mapK b l).length≤_
 rw[mapK_len]
 omega
theorem parseAhead(b:Bool)(l:List EV)(s:ByteArray)(w:World)(hs:s.data.toList=aheadX++mapT b l++[10])(hE:Esc w)(hM:MaxI w)(hl:l.length≤4)(hg: ∀e∈l,EntGood e):
  Calls Tryz.prog 8 #[.string s] w fun e w'=>(∃ao cap,e=.returned (.tuple #[.agg #[.bool b,.slice ao l.length cap],.int .i64 0])∧w'.ownsRow w.heap.size 32 2 (.slice ao l.length cap) l.length (ecells l))∧Below w.heap.size w w':=by
 obtain ⟨h1,h2⟩:=nice_of hg
 have e:=toksI_ahead (b:=b) (l:=l) (fun x hx=>(h1 x hx).1) (by omega)
 have h4:=map_len (b:=b) h2 hl
 have hk:=mapK_len b l
 have h3:(textsL (⟨3,bytesV [10]⟩::⟨3,bytesV [32]⟩::(mapK b l++[⟨3,bytesV [10]⟩]))).length≤30*(⟨3,bytesV [10]⟩::⟨3,bytesV [32]⟩::(mapK b l++[⟨3,bytesV [10]⟩]:List TV)).length:=texts_most (fun t ht=>by
  rcases List.mem_cons.1 ht with rfl|ht
  ·show 1≤30;decide
  rcases List.mem_cons.1 ht with rfl|ht
  ·show 1≤30;decide
  rcases List.mem_append.1 ht with ht|ht
  ·exact map_sizes h2 t ht
  rw[List.mem_singleton.1 ht];show 1≤30;decide)
 simp only[List.length_cons,List.length_append,List.length_nil,hk]at h3
 have hsz:s.size=s.data.toList.length:=by simp
 refine implParseSitemap s b l w ?_ hE hM ?_ ?_ (by rw[hs];exact read_ahead h1 (by omega))
 ·rw[hsz,hs,List.length_append,List.length_append]
  have:aheadX.length=19:=rfl
  simp only[List.length_cons,List.length_nil]
  omega
 ·rw[hs,e]
  exact Nat.le_trans h3 (by omega)
 rw[hs,e]
 simp only[List.length_cons,List.length_append,List.length_nil,hk]
 omega
end Go.Proofs.YtfdgehlobbeomaaGreatDoor
