/- TokWay, MapToks. -/
import Derived.Test.YtfdgehlobbeomaaGreatDoorQM05
namespace Go.Proofs.YtfdgehlobbeomaaGreatDoor
open Go.RowKit
set_option linter.unusedVariables false
theorem mem_dropW{p:UInt8→Bool}{c:UInt8}(hc:p c=false): ∀{l:List UInt8},c∈l→c∈l.dropWhile p
 |d::t,h=>by
  rw[List.dropWhile_cons]
  split
  ·rename_i hd
   rcases List.mem_cons.1 h with rfl|h
   ·rw[hc]at hd;cases hd
   exact mem_dropW hc h
  exact h
theorem dropW_nil{p:UInt8→Bool}: ∀{l:List UInt8},(∀c∈l,p c=true)→l.dropWhile p=[]
 |[],_=>rfl
 |c::t,h=>by
  rw[List.dropWhile_cons,if_pos (h c List.mem_cons_self)]
  exact dropW_nil fun d hd=>h d (List.mem_cons_of_mem _ hd)
theorem blk_set(c:UInt8):blkB c=blanks4.contains c:=by
 by_cases h:isBlank c
 ·rw[blank_yes h]
  unfold isBlank at h
  unfold blkB
  simp only[Bool.or_eq_true,decide_eq_true_eq]
  omega
 rw[blank_no h]
 unfold isBlank at h
 unfold blkB
 simp only[Bool.or_eq_false_iff,decide_eq_false_iff_not]
 omega
theorem trim_none (l : List UInt8) : (Lib.trimS l blanks4 = []) ↔ l.all blkB = true := by
 constructor
 ·intro h
  rw [List.all_eq_true]
  intro c hc
  apply Classical.byContradiction
  intro hn
  have hp : blanks4.contains c = false := by rw [← blk_set]; simpa using hn
  have h1 : c ∈ l.reverse.dropWhile (blanks4.contains ·) := mem_dropW hp (List.mem_reverse.2 hc)
  have h2 : c ∈ (Lib.trimS l blanks4) := mem_dropW hp (List.mem_reverse.2 h1)
  rw [h] at h2
  cases h2
 intro h
 rw [List.all_eq_true] at h
 have h1 : Lib.trimRightS l blanks4 = [] := by
  unfold Lib.trimRightS
  rw [show l.reverse.dropWhile (blanks4.contains ·) = [] from dropW_nil fun c hc => by
   have := h c (List.mem_reverse.1 hc)
   rw [blk_set] at this
   exact this]
  rfl
 unfold Lib.trimS
 rw [h1]
 rfl
theorem nm_not(c:UInt8)(h:nmB c=true):c≠62∧c≠34∧c≠39∧blkB c=false:=by
 refine ⟨?_,?_,?_,?_⟩
 ·rintro rfl;revert h;decide
 ·rintro rfl;revert h;decide
 ·rintro rfl;revert h;decide
 cases hb:blkB c with
 |false=>rfl
 |true=>
  have h2:isBlank c:=by
   unfold blkB at hb
   simp only[Bool.or_eq_true,decide_eq_true_eq]at hb
   unfold isBlank
   omega
  rcases h2 with h2|h2|h2|h2
  ·obtain rfl:c=32:=UInt8.toNat_inj.1 h2;revert h;decide
  ·obtain rfl:c=9:=UInt8.toNat_inj.1 h2;revert h;decide
  ·obtain rfl:c=10:=UInt8.toNat_inj.1 h2;revert h;decide
  obtain rfl:c=13:=UInt8.toNat_inj.1 h2;revert h;decide
def nameOkB(n:List UInt8):Bool:=decide (n≠[])&&decide (n.length≤40)
theorem name_good{r:List UInt8}(h:nameOkB (r.takeWhile nmB)=true):nameN r=(r.takeWhile nmB).length∧nameN r≠0:=by
 unfold nameOkB at h
 simp only[Bool.and_eq_true,decide_eq_true_eq]at h
 have h0:(r.takeWhile nmB).length≠0:=fun e=>h.1 (List.eq_nil_of_length_eq_zero e)
 rw[name_alt,if_neg (by omega)]
 exact ⟨rfl,h0⟩
theorem name_bad{r:List UInt8}(h:nameOkB (r.takeWhile nmB)=false):nameN r=0:=by
 rw[name_alt]
 split
 ·rfl
 rename_i h1
 unfold nameOkB at h
 apply Classical.byContradiction
 intro hn
 have h2:r.takeWhile nmB≠[]:=fun e=>hn (by rw[e];rfl)
 rw[decide_eq_true h2,decide_eq_true (by omega:(r.takeWhile nmB).length≤40)]at h
 cases h
theorem take_tw(r:List UInt8)(p:UInt8→Bool):r.take (r.takeWhile p).length=r.takeWhile p:=by
 conv=>lhs;arg 2;rw[←List.takeWhile_append_dropWhile (p:=p) (l:=r)]
 exact List.take_left' rfl
theorem drop_tw(r:List UInt8)(p:UInt8→Bool):r.drop (r.takeWhile p).length=r.dropWhile p:=by
 conv=>lhs;arg 2;rw[←List.takeWhile_append_dropWhile (p:=p) (l:=r)]
 exact List.drop_left' rfl
theorem tw_all{p:UInt8→Bool}: ∀{l:List UInt8},l.all p=true→l.takeWhile p=l
 |[],_=>rfl
 |c::t,h=>by
  rw[List.all_cons,Bool.and_eq_true]at h
  rw[List.takeWhile_cons,if_pos h.1,tw_all h.2]
theorem tw_part{p:UInt8→Bool}: ∀{l:List UInt8},l.all p=false→ ∃c,l[(l.takeWhile p).length]? =some c∧c∈l∧p c=false∧(l.takeWhile p).length<l.length
 |[],h=>by cases h
 |c::t,h=>by
  rw[List.takeWhile_cons]
  cases hc:p c with
  |true=>
   rw[List.all_cons,hc,Bool.true_and]at h
   obtain ⟨d,h1,h2,h3,h4⟩:=tw_part h
   exact ⟨d,by simpa using h1,List.mem_cons_of_mem _ h2,h3,by simpa using h4⟩
  |false=>exact ⟨c,by simp,List.mem_cons_self,hc,by simp⟩
theorem close_way(r:List UInt8)(h:r.contains 62=true):closeI r=if nameOkB ((upB 62 r).takeWhile nmB)=true∧(((upB 62 r).dropWhile nmB).all blkB=true)then ⟨[⟨2,bytesV ((upB 62 r).takeWhile nmB)⟩],(upB 62 r).length+1,0⟩else noMR 2:=by
 obtain ⟨h1,_,h3⟩:=up_beh 62 r
 have e:=h1 h
 unfold closeI
 rw[if_pos h]
 obtain ⟨p,hp⟩: ∃p,upB 62 r=p:=⟨_,rfl⟩
 obtain ⟨q,hq⟩: ∃q,behB 62 r=q:=⟨_,rfl⟩
 rw[hp,hq]at e
 rw[hp]at h3⊢
 have htw:r.takeWhile nmB=p.takeWhile nmB:=by rw[e];exact takeW_app (by decide)
 have hlen:r.length=p.length+1+q.length:=by rw[e];simp;omega
 have hpl:(p.takeWhile nmB).length+(p.dropWhile nmB).length=p.length:=by
  conv=>rhs;rw[←List.takeWhile_append_dropWhile (p:=nmB) (l:=p)]
  rw[List.length_append]
 have hne:closeE r≠r.length:=by
  unfold closeE
  have hd:r.drop (nameN r)=p.drop (nameN r)++62::q:=by
   have hn:nameN r≤p.length:=by
    rw[name_alt,htw]
    split<;>omega
   conv=>lhs;arg 2;rw[e]
   exact List.drop_append_of_le_length hn
  have hn:nameN r≤p.length:=by
   rw[name_alt,htw]
   split<;>omega
  rw[hd,takeW_app (by decide)]
  have:=(List.takeWhile_sublist blkB (l:=p.drop (nameN r))).length_le
  rw[List.length_drop]at this
  omega
 unfold closeR
 rw[if_neg hne]
 cases hok:nameOkB (p.takeWhile nmB)with
 |false=>
  rw[if_pos (.inl (name_bad (by rw[htw];exact hok))),if_neg (by simp)]
 |true=>
  obtain ⟨g1,g2⟩:=name_good (r:=r) (by rw[htw];exact hok)
  have hn:nameN r=(p.takeWhile nmB).length:=by rw[g1,htw]
  have hd:r.drop (nameN r)=p.dropWhile nmB++62::q:=by
   rw[hn]
   conv=>lhs;arg 2;rw[e]
   rw[List.drop_append_of_le_length (by omega),drop_tw]
  have hE:closeE r=(p.takeWhile nmB).length+((p.dropWhile nmB).takeWhile blkB).length:=by
   unfold closeE
   rw[hd,takeW_app (by decide),hn]
  cases hb:(p.dropWhile nmB).all blkB with
  |true=>
   have hE2:closeE r=p.length:=by rw[hE,tw_all hb];omega
   have h62:r[p.length]? =some 62:=by rw[e];simp
   have ht:r.take (nameN r)=p.takeWhile nmB:=by
    rw[hn]
    conv=>lhs;arg 2;rw[e]
    rw[List.take_append_of_le_length (by omega),take_tw]
   rw[if_neg (by rw[hE2,h62];simp[g2]),if_pos ⟨rfl,rfl⟩,hE2,ht]
  |false=>
   obtain ⟨c,c1,c2,c3,c4⟩:=tw_part hb
   have hc:r[closeE r]? =some c:=by
    have:(r.drop (nameN r))[((p.dropWhile nmB).takeWhile blkB).length]? =some c:=by
     rw[hd,List.getElem?_append_left c4]
     exact c1
    rw[List.getElem?_drop]at this
    rw[hE,←hn]
    exact this
   have hne62:c≠62:=fun e2=>h3 (by rw[←e2];exact (List.dropWhile_sublist nmB).subset c2)
   rw[if_pos (.inr (by rw[hc];simp[hne62])),if_neg (by simp)]
theorem scq_quote(q:UInt8)(hq:q≠0): ∀l:List UInt8,scQ q l=if l.contains q=true then (upB q l).length+1+scQ 0 (behB q l)else l.length
 |[]=>rfl
 |c::t=>by
  rw[scQ,if_neg (by simp[hq])]
  have ih:=scq_quote q hq t
  by_cases hc:c=q
  ·subst hc
   have hn:nxQ c c=0:=by unfold nxQ;rw[if_neg (by simp[hq]),if_pos rfl]
   have h1:(c::t).contains c=true:=by simp
   have h2:upB c (c::t)=[]:=by unfold upB;simp
   have h3:behB c (c::t)=t:=by unfold behB;simp
   rw[hn,if_pos h1,h2,h3]
   simp
  have hn:nxQ q c=q:=by unfold nxQ;rw[if_neg (by simp[hq]),if_neg (fun e=>hc e.symm)]
  have hcq:(c !=q)=true:=bne_iff_ne.2 hc
  have h1:(c::t).contains q=t.contains q:=by
   rw[List.contains_cons,show (q==c)=false from beq_eq_false_iff_ne.2 (fun e=>hc e.symm),Bool.false_or]
  have h2:upB q (c::t)=c::upB q t:=by unfold upB;rw[List.takeWhile_cons,if_pos hcq]
  have h3:behB q (c::t)=behB q t:=by unfold behB;rw[List.dropWhile_cons,if_pos hcq]
  rw[hn,ih,h1,h2,h3]
  cases t.contains q with
  |true=>rw[if_pos rfl,if_pos rfl,List.length_cons];omega
  |false=>rw[if_neg (by decide),if_neg (by decide),List.length_cons];omega
theorem scq_one{c:UInt8}{t:List UInt8}(h1:c≠62)(h2:c≠34)(h3:c≠39):scQ 0 (c::t)=1+scQ 0 t:=by
 rw[scQ,if_neg (by simp[h1])]
 have:nxQ 0 c=0:=by
  unfold nxQ
  rw[if_neg (by simp[h2,h3])]
  split<;>rfl
 rw[this]
theorem scq_end(t:List UInt8):scQ 0 (62::t)=0:=by rw[scQ,if_pos ⟨rfl,rfl⟩]
theorem scq_open{c:UInt8}{t:List UInt8}(h:c=34∨c=39):scQ 0 (c::t)=1+scQ c t:=by
 have h1:c≠62:=by rcases h with rfl|rfl<;>decide
 rw[scQ,if_neg (by simp[h1])]
 have:nxQ 0 c=c:=by unfold nxQ;rw[if_pos ⟨rfl,h⟩]
 rw[this]
theorem scq_name: ∀(n:Nat) {r:List UInt8},n≤(r.takeWhile nmB).length→scQ 0 r=n+scQ 0 (r.drop n)
 |0,r,_=>by simp
 |n+1,[],h=>by simp at h
 |n+1,c::t,h=>by
  rw[List.takeWhile_cons]at h
  cases hc:nmB c with
  |false=>rw[hc]at h;simp at h
  |true=>
   rw[hc,if_pos rfl,List.length_cons]at h
   obtain ⟨h1,h2,h3,_⟩:=nm_not c hc
   rw[scq_one h1 h2 h3,scq_name n (r:=t) (by omega),List.drop_succ_cons]
   omega
theorem scq_at: ∀(l:List UInt8) (q:UInt8),scQ q l<l.length→l[scQ q l]? =some 62
 |[],q,h=>by simp at h
 |c::t,q,h=>by
  rw[scQ]at h⊢
  split
  ·rename_i h1
   rw[h1.2]
   rfl
  rename_i h1
  rw[if_neg h1]at h
  rw[Nat.add_comm 1,List.getElem?_cons_succ]
  exact scq_at t _ (by rw[List.length_cons]at h;omega)
theorem openE_sc(r:List UInt8):openE r=scQ 0 r:=by
 unfold openE
 have:nameN r≤(r.takeWhile nmB).length:=by
  rw[name_alt]
  split<;>omega
 exact (scq_name _ this).symm
theorem open_way(r:List UInt8):openR r=if scQ 0 r=r.length then noMR 1 else if nameOkB ((r.take (scQ 0 r)).takeWhile nmB)=true∧badM ((r.take (scQ 0 r)).dropWhile nmB)=false then
  ⟨⟨1,bytesV ((r.take (scQ 0 r)).takeWhile nmB)⟩::(if ((r.take (scQ 0 r)).dropWhile nmB).getLast? =some 47 then [⟨2,bytesV ((r.take (scQ 0 r)).takeWhile nmB)⟩]else []),scQ 0 r+1,0⟩else noMR 2:=by
 unfold openR openM
 rw[openE_sc]
 have hle:=scQ_le r 0
 by_cases he:scQ 0 r=r.length
 ·rw[if_pos he,if_pos he]
 rw[if_neg he,if_neg he]
 have hlt:scQ 0 r<r.length:=by omega
 have h62:=scq_at r 0 hlt
 obtain ⟨E,hE⟩: ∃E,scQ 0 r=E:=⟨_,rfl⟩
 rw[hE]at h62 hlt⊢
 have e:r=r.take E++62::r.drop (E+1):=by
  conv=>lhs;rw[←List.take_append_drop E r]
  congr 1
  rw[List.drop_eq_getElem_cons hlt]
  congr 1
  rw[List.getElem?_eq_getElem hlt]at h62
  exact Option.some.inj h62
 have htw:r.takeWhile nmB=(r.take E).takeWhile nmB:=by
  conv=>lhs;rw[e]
  exact takeW_app (by decide)
 have hpl:((r.take E).takeWhile nmB).length≤E:=by
  have:=(List.takeWhile_sublist nmB (l:=r.take E)).length_le
  rw[List.length_take]at this
  omega
 cases hok:nameOkB ((r.take E).takeWhile nmB)with
 |false=>rw[if_pos (.inl (name_bad (by rw[htw];exact hok))),if_neg (by simp)]
 |true=>
  obtain ⟨g1,g2⟩:=name_good (r:=r) (by rw[htw];exact hok)
  have hn:nameN r=((r.take E).takeWhile nmB).length:=by rw[g1,htw]
  have ht:r.take (nameN r)=(r.take E).takeWhile nmB:=by
   rw[hn]
   have:r.take ((r.take E).takeWhile nmB).length=(r.take E).take ((r.take E).takeWhile nmB).length:=by rw[List.take_take,Nat.min_eq_left hpl]
   rw[this,take_tw]
  have hdr:(r.take E).drop (nameN r)=(r.take E).dropWhile nmB:=by rw[hn,drop_tw]
  rw[ht,hdr]
  cases hb:badM ((r.take E).dropWhile nmB)with
  |true=>rw[if_pos (.inr rfl),if_neg (by simp)]
  |false=>rw[if_neg (by simp[g2]),if_pos (c:=true=true∧false=false) ⟨rfl,rfl⟩]
theorem tw_name{n x:List UInt8}{c:UInt8}(h:n.all nmB=true)(hc:nmB c=false):(n++c::x).takeWhile nmB=n:=by
 rw[takeW_app hc,tw_all h]
theorem nm_head(c:UInt8)(h:nmB c=true):c≠33∧c≠63∧c≠47:=by
 refine ⟨?_,?_,?_⟩<;>(rintro rfl;revert h;decide)
theorem step_open{n x:List UInt8}(hn:nameOkB n=true)(h:n.all nmB=true):stepR (60::(n++62::x))=⟨[⟨1,bytesV n⟩],n.length+2,0⟩:=by
 have hw:=open_way (n++62::x)
 have hs:scQ 0 (n++62::x)=n.length:=by
  rw[scq_name n.length (by rw[tw_name h (by decide)];exact Nat.le_refl _),List.drop_left' rfl,scq_end]
  rfl
 have ht:(n++62::x).take n.length=n:=List.take_left' rfl
 have hd:n.dropWhile nmB=[]:=dropW_nil (by rw[List.all_eq_true]at h;exact h)
 rw[hs,ht,tw_all h,hd,if_neg (by simp),if_pos ⟨hn,rfl⟩]at hw
 have hne:n≠[]:=by
  intro e
  rw[e]at hn
  cases hn
 obtain ⟨c,m,rfl⟩: ∃c m,n=c::m:=by
  cases n with
  |nil=>exact absurd rfl hne
  |cons c m=>exact ⟨c,m,rfl⟩
 rw[List.all_cons,Bool.and_eq_true]at h
 obtain ⟨q1,q2,q3⟩:=nm_head c h.1
 rw[step_mark13 rfl]
 unfold markR
 rw[if_neg (by simp[Lib.hasPrefix,List.isPrefixOf];exact fun e=>absurd e.symm q1),if_neg (by simp[Lib.hasPrefix,List.isPrefixOf];exact fun e=>q2 e.symm),if_neg (by simp[Lib.hasPrefix,List.isPrefixOf];exact fun e=>absurd e.symm q1),if_neg (by simp[Lib.hasPrefix,List.isPrefixOf];exact fun e=>q3 e.symm)]
 show shMR 1 (openR (c::m++62::x))=_
 rw[hw]
 unfold shMR
 simp
 omega
theorem step_close{n x:List UInt8}(hn:nameOkB n=true)(h:n.all nmB=true):stepR (60::47::(n++62::x))=⟨[⟨2,bytesV n⟩],n.length+3,0⟩:=by
 have h62: ∀c∈n,c≠62:=fun c hc=>(nm_not c (by rw[List.all_eq_true]at h;exact h c hc)).1
 have hcon:(n++62::x).contains 62=true:=by simp
 have hup:upB 62 (n++62::x)=n:=by
  unfold upB
  rw[takeW_app (by decide)]
  exact tw_all (by rw[List.all_eq_true];exact fun c hc=>bne_iff_ne.2 (h62 c hc))
 have hw:=close_way (n++62::x) hcon
 have hd:n.dropWhile nmB=[]:=dropW_nil (by rw[List.all_eq_true]at h;exact h)
 rw[hup,tw_all h,hd,if_pos ⟨hn,rfl⟩]at hw
 have hI:closeI (n++62::x)=closeR (n++62::x):=by unfold closeI;rw[if_pos hcon]
 rw[hI]at hw
 rw[pre_close (by simp[Lib.hasPrefix,List.isPrefixOf])]
 show shMR 2 (closeR (n++62::x))=_
 rw[hw]
 unfold shMR
 simp
 omega
theorem step_txt{p t x:List UInt8}(hp:p≠[])(h60:60∉p)(hu:unF p=some t):stepR (p++60::x)=⟨[⟨3,bytesV t⟩],p.length,0⟩:=by
 have hup:upB 60 (p++60::x)=p:=by
  unfold upB
  rw[takeW_app (by decide)]
  exact tw_all (by rw[List.all_eq_true];exact fun c hc=>bne_iff_ne.2 (fun e=>h60 (e▸hc)))
 have hh:(p++60::x).head? ≠some 60:=by
  cases p with
  |nil=>exact absurd rfl hp
  |cons c m=>
   intro e
   have:c=60:=by simpa using e
   exact h60 (by rw[this];exact List.mem_cons_self)
 rw[step_text13 hh,hup,hu]
theorem tokH_open{acc:List TV}{n x:List UInt8}(hn:nameOkB n=true)(h:n.all nmB=true):tokH acc (60::(n++62::x))=tokH (acc++[⟨1,bytesV n⟩]) x:=by
 rw[tokH_step (by simp) (by rw[step_open hn h]),step_open hn h]
 show tokH _ ((60::(n++62::x)).drop (n.length+2))=_
 rw[show n.length+2=(60::(n++[62])).length by simp,show 60::(n++62::x)=(60::(n++[62]))++x by simp,List.drop_left' rfl]
theorem tokH_close{acc:List TV}{n x:List UInt8}(hn:nameOkB n=true)(h:n.all nmB=true):tokH acc (60::47::(n++62::x))=tokH (acc++[⟨2,bytesV n⟩]) x:=by
 rw[tokH_step (by simp) (by rw[step_close hn h]),step_close hn h]
 show tokH _ ((60::47::(n++62::x)).drop (n.length+3))=_
 rw[show n.length+3=(60::47::(n++[62])).length by simp,show 60::47::(n++62::x)=(60::47::(n++[62]))++x by simp,List.drop_left' rfl]
theorem tokH_txt{acc:List TV}{p t x:List UInt8}(hp:p≠[])(h60:60∉p)(hu:unF p=some t):tokH acc (p++60::x)=tokH (acc++[⟨3,bytesV t⟩]) (60::x):=by
 rw[tokH_step (by simp) (by rw[step_txt hp h60 hu]),step_txt hp h60 hu,List.drop_left' rfl]
theorem tokH_esc{acc:List TV}{l x:List UInt8}(hl:l≠[]):tokH acc (escL l++60::x)=tokH (acc++[⟨3,bytesV l⟩]) (60::x):=
 tokH_txt (fun e=>hl (by have:=un_esc l;rw[e]at this;cases this;rfl)) (fun h=>(esc_free l 60 h).1 rfl) (un_esc l)
end Go.Proofs.YtfdgehlobbeomaaGreatDoor
