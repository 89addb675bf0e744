/- CutEl. -/
import Derived.Test.YtfdgehlobbeomaaGreatDoorQM09
import Derived.Deep.RegionHeld3
set_option maxHeartbeats 4000000
set_option maxRecDepth 100000
namespace Go.Proofs.YtfdgehlobbeomaaGreatDoor
open Go.RowKit
set_option linter.unusedVariables false
set_option linter.unusedSimpArgs false
theorem wrap_small{z:Int}(h0:0≤z)(h1:z≤4294967296):IntKind.i64.wrap z=z:=by
 rw[IntKind.wrap_i64];omega
theorem implInsist(c:Int)(w:World):
  Calls Tryz.prog 43 #[.bool true,.int .i64 c] w fun e w'=>e=.returned (.tuple #[])∧w=w':=by
 go_enter Tryz.func43,Tryz.ntmps43
 go_wp2_with fail
 first|go_end0|refine bodyPost_ret (results_none rfl _ _ _) rfl ?_
 all_goals exact ⟨rfl,rfl⟩
theorem TokRow.part{w:World}{g off n c:Nat}{l:List TV}(hn:n=l.length)(hg:g<w.heap.size)(h: ∀i,i<l.length→w.cell? ⟨g,off+i*2,none⟩=some (.int .i64 (l.getD i tv0).k)∧w.cell? ⟨g,off+i*2+1,none⟩=some (.string (l.getD i tv0).s)){a b:Nat}(ha:a≤b)(hb:b≤l.length)(hc:b≤c):
  TokRow w (.slice (some ⟨g,off+a*2,none⟩) (b-a) (c-a)) ((l.take b).drop a):=by
 have hl:((l.take b).drop a).length=b-a:=by rw[List.length_drop,List.length_take];omega
 by_cases h0:a=b
 ·subst h0
  refine .inl ⟨List.eq_nil_of_length_eq_zero (by rw[hl];omega),some ⟨g,off+a*2,none⟩,c-a,by rw[Nat.sub_self]⟩
 refine .inr ⟨by omega,g,off+a*2,c-b,by rw[hl];congr 1;omega,hg,fun i hi=> ?_⟩
 rw[hl]at hi
 have e:((l.take b).drop a).getD i tv0=l.getD (a+i) tv0:=by
  rw[List.getD_eq_getElem?_getD,List.getElem?_drop,List.getElem?_take,if_pos (by omega),List.getD_eq_getElem?_getD]
 obtain ⟨q1,q2⟩:=h (a+i) (by omega)
 rw[e,show off+a*2+i*2=off+(a+i)*2 by omega]
 exact ⟨q1,q2⟩
theorem TokRow.cells{w:World}{g off c:Nat}{l:List TV}(h0:0<l.length)(h:TokRow w (.slice (some ⟨g,off,none⟩) l.length c) l):g<w.heap.size∧ ∀i,i<l.length→w.cell? ⟨g,off+i*2,none⟩=some (.int .i64 (l.getD i tv0).k)∧w.cell? ⟨g,off+i*2+1,none⟩=some (.string (l.getD i tv0).s):=by
 rcases h with ⟨h,_⟩|⟨_,g',off',cap,h1,h2,h3⟩
 ·rw[h]at h0;exact absurd h0 (Nat.not_lt_zero _)
 injection h1 with h1 _ _
 injection h1 with h1
 injection h1 with h4 h5
 subst h4 h5
 exact ⟨h2,h3⟩
theorem endA_lt: ∀{l:List TV} {d:Int} {p:Nat},endA d l=some p→p<l.length
 |[],d,p,h=>by cases h
 |t::r,d,p,h=>by
  rw[endA]at h
  split at h
  ·injection h with h;rw[←h,List.length_cons];omega
  cases hq:endA (d+depT t) r with
  |none=>rw[hq]at h;cases h
  |some q=>
   rw[hq]at h
   injection h with h
   have:=endA_lt hq
   have h':q+1=p:=h
   rw[List.length_cons]
   omega
theorem endA_step{d:Int}{x:TV}{r:List TV}{m:Nat}(h:endA d (x::r)=some m):(d+depT x=0∧m=0)∨(d+depT x≠0∧0<m∧endA (d+depT x) r=some (m-1)):=by
 rw[endA]at h
 split at h
 ·rename_i h1
  injection h with h
  exact .inl ⟨h1,h.symm⟩
 rename_i h1
 cases hq:endA (d+depT x) r with
 |none=>rw[hq]at h;cases h
 |some q=>
  rw[hq]at h
  injection h with h
  have h':q+1=m:=h
  refine .inr ⟨h1,by omega,?_⟩
  rw[←h',Nat.add_sub_cancel]
theorem el_results{fn:Func}{q r:Tmp}(h:fn.results= #[.cell q 87,.tmp r])(tmps:Array Value)(W:World)(B:Nat)(a b c:Value)
  (hp:tmps[q]?.getD undef=.pointer (some ⟨B,0,none⟩)) (hr:tmps[r]?.getD undef=c) (ha:BAt W B [a,b]):(results fn tmps).run Tryz.prog W=.ok (.tuple #[.agg #[a,b],c]) W:=by
 have c0:=ha.1 0 _ rfl
 have c1:=ha.1 1 _ rfl
 simp[results,h,hp,hr,asAddr,go_sem,c0,c1,Addr.add_lit]
theorem implCutElement(l:List TV)(v:Value)(f:Int)(nm:ByteArray)(wi be:List TV)(w:World)(hl:l.length≤1048576)(h:TokRow w v l)(hcut:cutE f l=.ok (nm,wi,be)):
  Calls Tryz.prog 41 #[v,.int .i64 f] w fun e w'=>(∃a b,e=.returned (.tuple #[.agg #[.string nm,a],b])∧ ∀W,TokRow W v l→TokRow W a wi∧TokRow W b be)∧Below w.heap.size w w':=by
 rcases h with ⟨rfl,ao,cap,rfl⟩|⟨h0,g,off,cap,rfl,hg,hc⟩
 ·cases hcut
 have HC:Hid (∀i,i<l.length→w.cell? ⟨g,off+i*2,none⟩=some (.int .i64 (l.getD i tv0).k)∧w.cell? ⟨g,off+i*2+1,none⟩=some (.string (l.getD i tv0).s)):=hc
 clear hc
 obtain ⟨p,hk1,hp,e1,e2,e3⟩: ∃p,(l.getD 0 tv0).k=1∧endA 0 l=some p∧(l.getD 0 tv0).s=nm∧(l.take p).drop 1=wi∧l.drop (p+1)=be:=by
  match l,h0 with
  |t::r,_=>
   unfold cutE at hcut
   dsimp only at hcut
   split at hcut
   ·rename_i ht
    cases hq:endA 0 (t::r)with
    |none=>rw[hq]at hcut;cases hcut
    |some p=>
     rw[hq]at hcut
     injection hcut with hcut
     injection hcut with h1 hcut
     injection hcut with h2 h3
     exact ⟨p,ht,rfl,h1,h2,h3⟩
   cases hcut
 have HP:Hid (endA 0 l=some p):=hp
 have HK1:Hid ((l.getD 0 tv0).k=1):=hk1
 have hpl:=endA_lt hp
 have H1:Hid ((l.take p).drop 1=wi):=e2
 have H2:Hid (l.drop (p+1)=be):=e3
 have HS:Hid ((l.getD 0 tv0).s=nm):=e1
 obtain ⟨q1,q2⟩:=HC.out 0 h0
 rw[hk1,Nat.zero_mul,Nat.add_zero]at q1
 rw[e1,Nat.zero_mul,Nat.add_zero]at q2
 clear hp e1 e2 e3 hcut hk1
 obtain ⟨O,hO⟩: ∃O,O=w.alloc (.cells #[.string ⟨#[]⟩,.slice none 0 0] 87):=⟨_,rfl⟩
 have bO:Below w.heap.size w O:=by rw[hO];exact (Below.refl _ _).alloc (Nat.le_refl _) _
 have AO:BAt O w.heap.size [.string ⟨#[]⟩,.slice none 0 0]:=by rw[hO];exact BAt.new w #[.string ⟨#[]⟩,.slice none 0 0] _
 have r1:=(bO.cell (p:=⟨g,off,none⟩) hg).trans q1
 have hli:(0:Int)<(l.length:Int):=by omega
 go_enter Tryz.func41,Tryz.ntmps41
 go_upto_region 1 with fail
 rw[←hO]
 clear hO
 go_wp2_with (go_at_call 43;refine (implInsist _ _).mono ?_;rintro e w' ⟨rfl,rfl⟩)
 clear r1
 have HA:Hid (BAt O w.heap.size [.string ⟨#[]⟩,.slice none 0 0]):=AO
 clear AO
 go_loopw[6,23] (fun b i wr=> ∃(k:Nat) (d:Int),k≤p∧ -(k:Int)≤d∧d≤k∧b=.int .i64 d∧i=.int .i64 k∧Hid (endA d (l.drop k)=some (p-k))∧Below O.heap.size O wr) (fun _ i _=>l.length-(intOf i).toNat)
 case atStart=>exact ⟨0,0,Nat.zero_le _,by omega,by omega,rfl,rfl,HP,Below.refl _ _⟩
 obtain ⟨k,d,hkp,hd1,hd2,rfl,rfl,HE,hbel⟩:=hrel
 have hlt:k<l.length:=by omega
 have hki:(k:Int)<l.length:=by omega
 have hbw:=bO.trans (hbel.mono bO.size)
 obtain ⟨c1,c2⟩:=HC.out k hlt
 have c1w:=(hbw.cell (p:=⟨g,off+k*2,none⟩) hg).trans c1
 have c2w:=(hbw.cell (p:=⟨g,off+k*2+1,none⟩) hg).trans c2
 have HD:Hid (l.drop k=l.getD k tv0::l.drop (k+1)):=tok_drop hlt
 have HK0:Hid (k=0→(l.getD k tv0).k=1):=fun h=>by rw[h];exact HK1.out
 clear c1 c2
 generalize l.getD k tv0=x at*
 obtain ⟨U,hU⟩: ∃U,U=wr.alloc (.cells #[.int .i64 x.k,.string x.s] 74):=⟨_,rfl⟩
 have bU:Below wr.heap.size wr U:=by rw[hU];exact (Below.refl _ _).alloc (Nat.le_refl _) _
 have AU:BAt U wr.heap.size [.int .i64 x.k,.string x.s]:=by rw[hU];exact BAt.new wr #[.int .i64 x.k,.string x.s] _
 have BU:Below O.heap.size O U:=hbel.trans (bU.mono hbel.size)
 have d0:=AU.1 0 _ rfl
 go_upto_region 6 with fail
 rw[←hU]
 clear hU bU AU c1w c2w hbel hbw
 have HE2:Hid (endA d (x::l.drop (k+1))=some (p-k)):=by rw[←HD.out];exact HE.out
 clear HE HD
 by_cases hk1:x.k=1
 ·have hd:depT x=1:=by unfold depT;rw[if_pos hk1]
  rcases endA_step HE2.out with ⟨hz,hm⟩|⟨hz,hm,hn⟩
  ·rw[hd]at hz
   have hzz:(d+1)=0:=by omega
   obtain rfl:k=p:=by omega
   have r2:=((bO.trans (BU.mono bO.size)).cell (p:=⟨g,off+1,none⟩) hg).trans q2
   have A2:=HA.out.below BU
   have a0:=A2.1 0 _ rfl
   have a1:=A2.1 1 _ rfl
   have f0:=A2.2.1
   have hk1p:1≤k:=by
    rcases Nat.eq_zero_or_pos k with h|h
    ·exfalso
     have hx0:=HK0.out h
     omega
    exact h
   have z1:(1:Int)≤k:=by omega
   have z2:(k:Int)+1≤l.length:=by omega
   go_upto_region 12 with fail
   have hfr:=HA.out.2.2
   obtain ⟨vb,HV,HVB⟩: ∃vb,Hid (Value.slice (if l.length+cap=k+1 then some ⟨g,off,none⟩else some ⟨g,off+(k+1)*2,none⟩) (l.length-(k+1)) (l.length+cap-(k+1))=vb)∧Hid (∀W,TokRow W (.slice (some ⟨g,off,none⟩) l.length (l.length+cap)) l→TokRow W vb be):=by
    refine ⟨_,rfl,fun W hWT=> ?_⟩
    obtain ⟨hg,HC⟩:=TokRow.cells h0 hWT
    rw[←H2.out]
    by_cases hq:l.length+cap=k+1
    ·refine .inl ⟨List.drop_eq_nil_of_le (by omega),some ⟨g,off,none⟩,l.length+cap-(k+1),?_⟩
     rw[if_pos hq,show l.length-(k+1)=0 by omega]
    have:=TokRow.part (n:=l.length) (c:=l.length+cap) rfl hg HC (a:=k+1) (b:=l.length) (by omega) (Nat.le_refl _) (by omega)
    rw[List.take_length]at this
    rw[if_neg hq]
    exact this
   have HVA:Hid (∀W,TokRow W (.slice (some ⟨g,off,none⟩) l.length (l.length+cap)) l→TokRow W (.slice (some ⟨g,off+2,none⟩) (k-1) (l.length+cap-1)) wi):=fun W hWT=>by
    obtain ⟨hg,HC⟩:=TokRow.cells h0 hWT
    rw[←H1.out]
    exact TokRow.part (n:=l.length) (c:=l.length+cap) rfl hg HC (a:=1) (b:=k) hk1p (by omega) (by omega)
   have A3:Hid (BAt (((U.setCell ⟨w.heap.size,0,none⟩ (.string nm)).setCell ⟨w.heap.size,1,none⟩ (.slice (some ⟨g,off+2,none⟩) (k-1) (l.length+cap-1))).drew) w.heap.size [.string nm,.slice (some ⟨g,off+2,none⟩) (k-1) (l.length+cap-1)]):=((A2.set 0 (by simp) (.string nm)).set 1 (by simp) (.slice (some ⟨g,off+2,none⟩) (k-1) (l.length+cap-1)))
   clear HE2
   refine wp_region_held_drew (S:=fun W=>W.cell? ⟨g,off+1,none⟩=some (.string nm)) (by kernel_rfl) r2 (fun s0=> ?_)
   refine wpAnyH_take (i:=0) (v:= ?_) rfl (by kernel_rfl) (by kernel_rfl) (by kernel_rfl) (fun _ _ _ h=>h) (Or.inl ⟨by rfl,fun W hW=> ?_⟩) s0 ?_
   rotate_left
   ·clear hW
    go_simp
    try with_reducible rfl
   simp only[Act.put,List.getElem_toArray,List.getElem_cons_zero,List.getElem_cons_succ,List.setIfInBounds_toArray,List.set_cons_zero,List.set_cons_succ]
   refine wpAnyH_take (i:=1) (v:= ?_) rfl (by kernel_rfl) (by kernel_rfl) (by kernel_rfl) (fun _ _ _ h=>h) (Or.inl ⟨by rfl,fun W hW=> ?_⟩) s0 ?_
   rotate_left
   ·clear hW
    go_simp
    try with_reducible rfl
   simp only[Act.put,List.getElem_toArray,List.getElem_cons_zero,List.getElem_cons_succ,List.setIfInBounds_toArray,List.set_cons_zero,List.set_cons_succ]
   refine wpAnyH_take (i:=2) (v:= ?_) rfl (by kernel_rfl) (by kernel_rfl) (by kernel_rfl) (fun _ _ _ h=>h) (Or.inl ⟨by rfl,fun W hW=> ?_⟩) s0 ?_
   rotate_left
   ·clear hW
    go_simp
    try with_reducible rfl
   simp only[Act.put,List.getElem_toArray,List.getElem_cons_zero,List.getElem_cons_succ,List.setIfInBounds_toArray,List.set_cons_zero,List.set_cons_succ]
   refine wpAnyH_take (i:=3) (v:=.string nm) rfl (by kernel_rfl) (by kernel_rfl) (by kernel_rfl) (fun _ _ _ h=>h) (Or.inl ⟨by rfl,fun W hW=> ?_⟩) s0 ?_
   ·go_simp
   simp only[Act.put,List.getElem_toArray,List.getElem_cons_zero,List.getElem_cons_succ,List.setIfInBounds_toArray,List.set_cons_zero,List.set_cons_succ]
   refine wpAnyH_take (i:=4) (v:= ?_) rfl (by kernel_rfl) (by kernel_rfl) (by kernel_rfl) (fun _ _ _ h=>h) (Or.inl ⟨by rfl,fun W hW=> ?_⟩) s0 ?_
   rotate_left
   ·clear hW
    go_simp
    try with_reducible rfl
   simp only[Act.put,List.getElem_toArray,List.getElem_cons_zero,List.getElem_cons_succ,List.setIfInBounds_toArray,List.set_cons_zero,List.set_cons_succ]
   refine wpAnyH_take (i:=5) (v:= ?_) rfl (by kernel_rfl) (by kernel_rfl) (by kernel_rfl) (fun _ _ _ h=>h) (Or.inl ⟨by rfl,fun W hW=> ?_⟩) s0 ?_
   rotate_left
   ·clear hW
    go_simp
    try with_reducible rfl
   simp only[Act.put,List.getElem_toArray,List.getElem_cons_zero,List.getElem_cons_succ,List.setIfInBounds_toArray,List.set_cons_zero,List.set_cons_succ]
   have hcn: ¬l.length+cap=1:=by omega
   have hck:(k:Int)≤(l.length:Int)+(cap:Int):=by omega
   refine wpAnyH_take (i:=6) (v:=.slice (some ⟨g,off+2,none⟩) (k-1) (l.length+cap-1)) rfl (by kernel_rfl) (by kernel_rfl) (by kernel_rfl) (fun _ _ _ h=>h) (Or.inl ⟨by rfl,fun W hW=> ?_⟩) s0 ?_
   ·go_simp
   simp only[Act.put,List.getElem_toArray,List.getElem_cons_zero,List.getElem_cons_succ,List.setIfInBounds_toArray,List.set_cons_zero,List.set_cons_succ]
   refine wpAnyH_take (i:=7) (v:= ?_) rfl (by kernel_rfl) (by kernel_rfl) (by kernel_rfl) (fun _ _ _ h=>h) (Or.inl ⟨by rfl,fun W hW=> ?_⟩) s0 ?_
   rotate_left
   ·clear hW
    go_simp
    try with_reducible rfl
   simp only[Act.put,List.getElem_toArray,List.getElem_cons_zero,List.getElem_cons_succ,List.setIfInBounds_toArray,List.set_cons_zero,List.set_cons_succ]
   refine wpAnyH_take (i:=8) (v:= ?_) rfl (by kernel_rfl) (by kernel_rfl) (by kernel_rfl) (fun _ _ _ h=>h) (Or.inl ⟨by rfl,fun W hW=> ?_⟩) s0 ?_
   rotate_left
   ·clear hW
    go_simp
    try with_reducible rfl
   simp only[Act.put,List.getElem_toArray,List.getElem_cons_zero,List.getElem_cons_succ,List.setIfInBounds_toArray,List.set_cons_zero,List.set_cons_succ]
   refine wpAnyH_take (i:=9) (v:= ?_) rfl (by kernel_rfl) (by kernel_rfl) (by kernel_rfl) (fun _ _ _ h=>h) (Or.inl ⟨by rfl,fun W hW=> ?_⟩) s0 ?_
   rotate_left
   ·clear hW
    go_simp
    try with_reducible rfl
   simp only[Act.put,List.getElem_toArray,List.getElem_cons_zero,List.getElem_cons_succ,List.setIfInBounds_toArray,List.set_cons_zero,List.set_cons_succ]
   refine wpAnyH_take (i:=10) (v:=.int .i64 ((k:Int)+1)) rfl (by kernel_rfl) (by kernel_rfl) (by kernel_rfl) (fun _ _ _ h=>h) (Or.inl ⟨by rfl,fun W hW=> ?_⟩) s0 ?_
   ·go_simp
    exact wrap_small (by omega) (by omega)
   simp only[Act.put,List.getElem_toArray,List.getElem_cons_zero,List.getElem_cons_succ,List.setIfInBounds_toArray,List.set_cons_zero,List.set_cons_succ]
   refine wpAnyH_take (i:=11) (v:=vb) rfl (by kernel_rfl) (by kernel_rfl) (by kernel_rfl) (fun _ _ _ h=>h) (Or.inl ⟨by rfl,fun W hW=> ?_⟩) s0 ?_
   ·rw[←HV.out]
    go_simp
    intro hneg
    exfalso
    omega
   simp only[Act.put,List.getElem_toArray,List.getElem_cons_zero,List.getElem_cons_succ,List.setIfInBounds_toArray,List.set_cons_zero,List.set_cons_succ]
   refine wpAnyH_ready (rs:=[12]) (by kernel_rfl) (by simp) (AllReadyH.cons rfl (fun K hK=> ?_) AllReadyH.nil)
   go_simp
   refine hK.out _ _ ?_ (fun s1=> ?_)
   ·show World.cell? _ _=_
    rw[World.cell?_drew,World.cell?_setCell_other _ _ _ _ (fun e=>by injection e with e1;omega),World.cell?_setCell_other _ _ _ _ (fun e=>by injection e with e1;omega)]
    exact r2
   clear hK K s0
   refine wpAnyH_take (i:=13) (v:= ?_) rfl (by kernel_rfl) (by kernel_rfl) (by kernel_rfl) (fun _ _ _ h=>h) (Or.inl ⟨by rfl,fun W hW=> ?_⟩) s1 ?_
   rotate_left
   ·clear hW
    go_simp
    try with_reducible rfl
   simp only[Act.put,List.getElem_toArray,List.getElem_cons_zero,List.getElem_cons_succ,List.setIfInBounds_toArray,List.set_cons_zero,List.set_cons_succ]
   refine wpAnyH_done (by kernel_rfl) ?_ _
   go_wp2_with fail
   refine bodyPost_ret (el_results rfl _ _ w.heap.size (.string nm) (.slice (some ⟨g,off+2,none⟩) (k-1) (l.length+cap-1)) vb rfl rfl A3.out) rfl ⟨⟨_,_,rfl,fun W hWT=>⟨HVA.out W hWT,HVB.out W hWT⟩⟩,?_⟩
   exact (((bO.trans (BU.mono bO.size)).setCell (p:=⟨w.heap.size,0,none⟩) (Nat.le_refl _) _).setCell (p:=⟨w.heap.size,1,none⟩) (Nat.le_refl _) _).drew
  rw[hd]at hz hn
  have hzz: ¬(d+1)=0:=by omega
  have HN:Hid (endA ((d+1)) (l.drop (k+1))=some (p-(k+1))):=by
   show _=_
   rw[show p-(k+1)=p-k-1 by omega,show (d+1)=d+1 by omega]
   exact hn
  clear hn HE2
  go_wp2_with fail
  go_roundw
  case rel=>exact ⟨k+1,(d+1),by omega,by omega,by omega,by go_num,by go_num,HN,BU⟩
  case measure=>simp[intOf]<;>omega
 by_cases hk2:x.k=2
 ·have hd:depT x= -1:=by unfold depT;rw[if_neg hk1,if_pos hk2]
  rcases endA_step HE2.out with ⟨hz,hm⟩|⟨hz,hm,hn⟩
  ·rw[hd]at hz
   have hzz:(d-1)=0:=by omega
   obtain rfl:k=p:=by omega
   have r2:=((bO.trans (BU.mono bO.size)).cell (p:=⟨g,off+1,none⟩) hg).trans q2
   have A2:=HA.out.below BU
   have a0:=A2.1 0 _ rfl
   have a1:=A2.1 1 _ rfl
   have f0:=A2.2.1
   have hk1p:1≤k:=by
    rcases Nat.eq_zero_or_pos k with h|h
    ·exfalso
     have hx0:=HK0.out h
     omega
    exact h
   have z1:(1:Int)≤k:=by omega
   have z2:(k:Int)+1≤l.length:=by omega
   go_upto_region 12 with fail
   have hfr:=HA.out.2.2
   obtain ⟨vb,HV,HVB⟩: ∃vb,Hid (Value.slice (if l.length+cap=k+1 then some ⟨g,off,none⟩else some ⟨g,off+(k+1)*2,none⟩) (l.length-(k+1)) (l.length+cap-(k+1))=vb)∧Hid (∀W,TokRow W (.slice (some ⟨g,off,none⟩) l.length (l.length+cap)) l→TokRow W vb be):=by
    refine ⟨_,rfl,fun W hWT=> ?_⟩
    obtain ⟨hg,HC⟩:=TokRow.cells h0 hWT
    rw[←H2.out]
    by_cases hq:l.length+cap=k+1
    ·refine .inl ⟨List.drop_eq_nil_of_le (by omega),some ⟨g,off,none⟩,l.length+cap-(k+1),?_⟩
     rw[if_pos hq,show l.length-(k+1)=0 by omega]
    have:=TokRow.part (n:=l.length) (c:=l.length+cap) rfl hg HC (a:=k+1) (b:=l.length) (by omega) (Nat.le_refl _) (by omega)
    rw[List.take_length]at this
    rw[if_neg hq]
    exact this
   have HVA:Hid (∀W,TokRow W (.slice (some ⟨g,off,none⟩) l.length (l.length+cap)) l→TokRow W (.slice (some ⟨g,off+2,none⟩) (k-1) (l.length+cap-1)) wi):=fun W hWT=>by
    obtain ⟨hg,HC⟩:=TokRow.cells h0 hWT
    rw[←H1.out]
    exact TokRow.part (n:=l.length) (c:=l.length+cap) rfl hg HC (a:=1) (b:=k) hk1p (by omega) (by omega)
   have A3:Hid (BAt (((U.setCell ⟨w.heap.size,0,none⟩ (.string nm)).setCell ⟨w.heap.size,1,none⟩ (.slice (some ⟨g,off+2,none⟩) (k-1) (l.length+cap-1))).drew) w.heap.size [.string nm,.slice (some ⟨g,off+2,none⟩) (k-1) (l.length+cap-1)]):=((A2.set 0 (by simp) (.string nm)).set 1 (by simp) (.slice (some ⟨g,off+2,none⟩) (k-1) (l.length+cap-1)))
   clear HE2
   refine wp_region_held_drew (S:=fun W=>W.cell? ⟨g,off+1,none⟩=some (.string nm)) (by kernel_rfl) r2 (fun s0=> ?_)
   refine wpAnyH_take (i:=0) (v:= ?_) rfl (by kernel_rfl) (by kernel_rfl) (by kernel_rfl) (fun _ _ _ h=>h) (Or.inl ⟨by rfl,fun W hW=> ?_⟩) s0 ?_
   rotate_left
   ·clear hW
    go_simp
    try with_reducible rfl
   simp only[Act.put,List.getElem_toArray,List.getElem_cons_zero,List.getElem_cons_succ,List.setIfInBounds_toArray,List.set_cons_zero,List.set_cons_succ]
   refine wpAnyH_take (i:=1) (v:= ?_) rfl (by kernel_rfl) (by kernel_rfl) (by kernel_rfl) (fun _ _ _ h=>h) (Or.inl ⟨by rfl,fun W hW=> ?_⟩) s0 ?_
   rotate_left
   ·clear hW
    go_simp
    try with_reducible rfl
   simp only[Act.put,List.getElem_toArray,List.getElem_cons_zero,List.getElem_cons_succ,List.setIfInBounds_toArray,List.set_cons_zero,List.set_cons_succ]
   refine wpAnyH_take (i:=2) (v:= ?_) rfl (by kernel_rfl) (by kernel_rfl) (by kernel_rfl) (fun _ _ _ h=>h) (Or.inl ⟨by rfl,fun W hW=> ?_⟩) s0 ?_
   rotate_left
   ·clear hW
    go_simp
    try with_reducible rfl
   simp only[Act.put,List.getElem_toArray,List.getElem_cons_zero,List.getElem_cons_succ,List.setIfInBounds_toArray,List.set_cons_zero,List.set_cons_succ]
   refine wpAnyH_take (i:=3) (v:=.string nm) rfl (by kernel_rfl) (by kernel_rfl) (by kernel_rfl) (fun _ _ _ h=>h) (Or.inl ⟨by rfl,fun W hW=> ?_⟩) s0 ?_
   ·go_simp
   simp only[Act.put,List.getElem_toArray,List.getElem_cons_zero,List.getElem_cons_succ,List.setIfInBounds_toArray,List.set_cons_zero,List.set_cons_succ]
   refine wpAnyH_take (i:=4) (v:= ?_) rfl (by kernel_rfl) (by kernel_rfl) (by kernel_rfl) (fun _ _ _ h=>h) (Or.inl ⟨by rfl,fun W hW=> ?_⟩) s0 ?_
   rotate_left
   ·clear hW
    go_simp
    try with_reducible rfl
   simp only[Act.put,List.getElem_toArray,List.getElem_cons_zero,List.getElem_cons_succ,List.setIfInBounds_toArray,List.set_cons_zero,List.set_cons_succ]
   refine wpAnyH_take (i:=5) (v:= ?_) rfl (by kernel_rfl) (by kernel_rfl) (by kernel_rfl) (fun _ _ _ h=>h) (Or.inl ⟨by rfl,fun W hW=> ?_⟩) s0 ?_
   rotate_left
   ·clear hW
    go_simp
    try with_reducible rfl
   simp only[Act.put,List.getElem_toArray,List.getElem_cons_zero,List.getElem_cons_succ,List.setIfInBounds_toArray,List.set_cons_zero,List.set_cons_succ]
   have hcn: ¬l.length+cap=1:=by omega
   have hck:(k:Int)≤(l.length:Int)+(cap:Int):=by omega
   refine wpAnyH_take (i:=6) (v:=.slice (some ⟨g,off+2,none⟩) (k-1) (l.length+cap-1)) rfl (by kernel_rfl) (by kernel_rfl) (by kernel_rfl) (fun _ _ _ h=>h) (Or.inl ⟨by rfl,fun W hW=> ?_⟩) s0 ?_
   ·go_simp
   simp only[Act.put,List.getElem_toArray,List.getElem_cons_zero,List.getElem_cons_succ,List.setIfInBounds_toArray,List.set_cons_zero,List.set_cons_succ]
   refine wpAnyH_take (i:=7) (v:= ?_) rfl (by kernel_rfl) (by kernel_rfl) (by kernel_rfl) (fun _ _ _ h=>h) (Or.inl ⟨by rfl,fun W hW=> ?_⟩) s0 ?_
   rotate_left
   ·clear hW
    go_simp
    try with_reducible rfl
   simp only[Act.put,List.getElem_toArray,List.getElem_cons_zero,List.getElem_cons_succ,List.setIfInBounds_toArray,List.set_cons_zero,List.set_cons_succ]
   refine wpAnyH_take (i:=8) (v:= ?_) rfl (by kernel_rfl) (by kernel_rfl) (by kernel_rfl) (fun _ _ _ h=>h) (Or.inl ⟨by rfl,fun W hW=> ?_⟩) s0 ?_
   rotate_left
   ·clear hW
    go_simp
    try with_reducible rfl
   simp only[Act.put,List.getElem_toArray,List.getElem_cons_zero,List.getElem_cons_succ,List.setIfInBounds_toArray,List.set_cons_zero,List.set_cons_succ]
   refine wpAnyH_take (i:=9) (v:= ?_) rfl (by kernel_rfl) (by kernel_rfl) (by kernel_rfl) (fun _ _ _ h=>h) (Or.inl ⟨by rfl,fun W hW=> ?_⟩) s0 ?_
   rotate_left
   ·clear hW
    go_simp
    try with_reducible rfl
   simp only[Act.put,List.getElem_toArray,List.getElem_cons_zero,List.getElem_cons_succ,List.setIfInBounds_toArray,List.set_cons_zero,List.set_cons_succ]
   refine wpAnyH_take (i:=10) (v:=.int .i64 ((k:Int)+1)) rfl (by kernel_rfl) (by kernel_rfl) (by kernel_rfl) (fun _ _ _ h=>h) (Or.inl ⟨by rfl,fun W hW=> ?_⟩) s0 ?_
   ·go_simp
    exact wrap_small (by omega) (by omega)
   simp only[Act.put,List.getElem_toArray,List.getElem_cons_zero,List.getElem_cons_succ,List.setIfInBounds_toArray,List.set_cons_zero,List.set_cons_succ]
   refine wpAnyH_take (i:=11) (v:=vb) rfl (by kernel_rfl) (by kernel_rfl) (by kernel_rfl) (fun _ _ _ h=>h) (Or.inl ⟨by rfl,fun W hW=> ?_⟩) s0 ?_
   ·rw[←HV.out]
    go_simp
    intro hneg
    exfalso
    omega
   simp only[Act.put,List.getElem_toArray,List.getElem_cons_zero,List.getElem_cons_succ,List.setIfInBounds_toArray,List.set_cons_zero,List.set_cons_succ]
   refine wpAnyH_ready (rs:=[12]) (by kernel_rfl) (by simp) (AllReadyH.cons rfl (fun K hK=> ?_) AllReadyH.nil)
   go_simp
   refine hK.out _ _ ?_ (fun s1=> ?_)
   ·show World.cell? _ _=_
    rw[World.cell?_drew,World.cell?_setCell_other _ _ _ _ (fun e=>by injection e with e1;omega),World.cell?_setCell_other _ _ _ _ (fun e=>by injection e with e1;omega)]
    exact r2
   clear hK K s0
   refine wpAnyH_take (i:=13) (v:= ?_) rfl (by kernel_rfl) (by kernel_rfl) (by kernel_rfl) (fun _ _ _ h=>h) (Or.inl ⟨by rfl,fun W hW=> ?_⟩) s1 ?_
   rotate_left
   ·clear hW
    go_simp
    try with_reducible rfl
   simp only[Act.put,List.getElem_toArray,List.getElem_cons_zero,List.getElem_cons_succ,List.setIfInBounds_toArray,List.set_cons_zero,List.set_cons_succ]
   refine wpAnyH_done (by kernel_rfl) ?_ _
   go_wp2_with fail
   refine bodyPost_ret (el_results rfl _ _ w.heap.size (.string nm) (.slice (some ⟨g,off+2,none⟩) (k-1) (l.length+cap-1)) vb rfl rfl A3.out) rfl ⟨⟨_,_,rfl,fun W hWT=>⟨HVA.out W hWT,HVB.out W hWT⟩⟩,?_⟩
   exact (((bO.trans (BU.mono bO.size)).setCell (p:=⟨w.heap.size,0,none⟩) (Nat.le_refl _) _).setCell (p:=⟨w.heap.size,1,none⟩) (Nat.le_refl _) _).drew
  rw[hd]at hz hn
  have hzz: ¬(d-1)=0:=by omega
  have HN:Hid (endA ((d-1)) (l.drop (k+1))=some (p-(k+1))):=by
   show _=_
   rw[show p-(k+1)=p-k-1 by omega,show (d-1)=d+(-1) by omega]
   exact hn
  clear hn HE2
  go_wp2_with fail
  go_roundw
  case rel=>exact ⟨k+1,(d-1),by omega,by omega,by omega,by go_num,by go_num,HN,BU⟩
  case measure=>simp[intOf]<;>omega
 have hd:depT x=0:=by unfold depT;rw[if_neg hk1,if_neg hk2]
 rcases endA_step HE2.out with ⟨hz,hm⟩|⟨hz,hm,hn⟩
 ·rw[hd]at hz
  have hzz:d=0:=by omega
  obtain rfl:k=p:=by omega
  have r2:=((bO.trans (BU.mono bO.size)).cell (p:=⟨g,off+1,none⟩) hg).trans q2
  have A2:=HA.out.below BU
  have a0:=A2.1 0 _ rfl
  have a1:=A2.1 1 _ rfl
  have f0:=A2.2.1
  have hk1p:1≤k:=by
   rcases Nat.eq_zero_or_pos k with h|h
   ·exfalso
    have hx0:=HK0.out h
    omega
   exact h
  have z1:(1:Int)≤k:=by omega
  have z2:(k:Int)+1≤l.length:=by omega
  go_upto_region 12 with fail
  have hfr:=HA.out.2.2
  obtain ⟨vb,HV,HVB⟩: ∃vb,Hid (Value.slice (if l.length+cap=k+1 then some ⟨g,off,none⟩else some ⟨g,off+(k+1)*2,none⟩) (l.length-(k+1)) (l.length+cap-(k+1))=vb)∧Hid (∀W,TokRow W (.slice (some ⟨g,off,none⟩) l.length (l.length+cap)) l→TokRow W vb be):=by
   refine ⟨_,rfl,fun W hWT=> ?_⟩
   obtain ⟨hg,HC⟩:=TokRow.cells h0 hWT
   rw[←H2.out]
   by_cases hq:l.length+cap=k+1
   ·refine .inl ⟨List.drop_eq_nil_of_le (by omega),some ⟨g,off,none⟩,l.length+cap-(k+1),?_⟩
    rw[if_pos hq,show l.length-(k+1)=0 by omega]
   have:=TokRow.part (n:=l.length) (c:=l.length+cap) rfl hg HC (a:=k+1) (b:=l.length) (by omega) (Nat.le_refl _) (by omega)
   rw[List.take_length]at this
   rw[if_neg hq]
   exact this
  have HVA:Hid (∀W,TokRow W (.slice (some ⟨g,off,none⟩) l.length (l.length+cap)) l→TokRow W (.slice (some ⟨g,off+2,none⟩) (k-1) (l.length+cap-1)) wi):=fun W hWT=>by
   obtain ⟨hg,HC⟩:=TokRow.cells h0 hWT
   rw[←H1.out]
   exact TokRow.part (n:=l.length) (c:=l.length+cap) rfl hg HC (a:=1) (b:=k) hk1p (by omega) (by omega)
  have A3:Hid (BAt (((U.setCell ⟨w.heap.size,0,none⟩ (.string nm)).setCell ⟨w.heap.size,1,none⟩ (.slice (some ⟨g,off+2,none⟩) (k-1) (l.length+cap-1))).drew) w.heap.size [.string nm,.slice (some ⟨g,off+2,none⟩) (k-1) (l.length+cap-1)]):=((A2.set 0 (by simp) (.string nm)).set 1 (by simp) (.slice (some ⟨g,off+2,none⟩) (k-1) (l.length+cap-1)))
  clear HE2
  refine wp_region_held_drew (S:=fun W=>W.cell? ⟨g,off+1,none⟩=some (.string nm)) (by kernel_rfl) r2 (fun s0=> ?_)
  refine wpAnyH_take (i:=0) (v:= ?_) rfl (by kernel_rfl) (by kernel_rfl) (by kernel_rfl) (fun _ _ _ h=>h) (Or.inl ⟨by rfl,fun W hW=> ?_⟩) s0 ?_
  rotate_left
  ·clear hW
   go_simp
   try with_reducible rfl
  simp only[Act.put,List.getElem_toArray,List.getElem_cons_zero,List.getElem_cons_succ,List.setIfInBounds_toArray,List.set_cons_zero,List.set_cons_succ]
  refine wpAnyH_take (i:=1) (v:= ?_) rfl (by kernel_rfl) (by kernel_rfl) (by kernel_rfl) (fun _ _ _ h=>h) (Or.inl ⟨by rfl,fun W hW=> ?_⟩) s0 ?_
  rotate_left
  ·clear hW
   go_simp
   try with_reducible rfl
  simp only[Act.put,List.getElem_toArray,List.getElem_cons_zero,List.getElem_cons_succ,List.setIfInBounds_toArray,List.set_cons_zero,List.set_cons_succ]
  refine wpAnyH_take (i:=2) (v:= ?_) rfl (by kernel_rfl) (by kernel_rfl) (by kernel_rfl) (fun _ _ _ h=>h) (Or.inl ⟨by rfl,fun W hW=> ?_⟩) s0 ?_
  rotate_left
  ·clear hW
   go_simp
   try with_reducible rfl
  simp only[Act.put,List.getElem_toArray,List.getElem_cons_zero,List.getElem_cons_succ,List.setIfInBounds_toArray,List.set_cons_zero,List.set_cons_succ]
  refine wpAnyH_take (i:=3) (v:=.string nm) rfl (by kernel_rfl) (by kernel_rfl) (by kernel_rfl) (fun _ _ _ h=>h) (Or.inl ⟨by rfl,fun W hW=> ?_⟩) s0 ?_
  ·go_simp
  simp only[Act.put,List.getElem_toArray,List.getElem_cons_zero,List.getElem_cons_succ,List.setIfInBounds_toArray,List.set_cons_zero,List.set_cons_succ]
  refine wpAnyH_take (i:=4) (v:= ?_) rfl (by kernel_rfl) (by kernel_rfl) (by kernel_rfl) (fun _ _ _ h=>h) (Or.inl ⟨by rfl,fun W hW=> ?_⟩) s0 ?_
  rotate_left
  ·clear hW
   go_simp
   try with_reducible rfl
  simp only[Act.put,List.getElem_toArray,List.getElem_cons_zero,List.getElem_cons_succ,List.setIfInBounds_toArray,List.set_cons_zero,List.set_cons_succ]
  refine wpAnyH_take (i:=5) (v:= ?_) rfl (by kernel_rfl) (by kernel_rfl) (by kernel_rfl) (fun _ _ _ h=>h) (Or.inl ⟨by rfl,fun W hW=> ?_⟩) s0 ?_
  rotate_left
  ·clear hW
   go_simp
   try with_reducible rfl
  simp only[Act.put,List.getElem_toArray,List.getElem_cons_zero,List.getElem_cons_succ,List.setIfInBounds_toArray,List.set_cons_zero,List.set_cons_succ]
  have hcn: ¬l.length+cap=1:=by omega
  have hck:(k:Int)≤(l.length:Int)+(cap:Int):=by omega
  refine wpAnyH_take (i:=6) (v:=.slice (some ⟨g,off+2,none⟩) (k-1) (l.length+cap-1)) rfl (by kernel_rfl) (by kernel_rfl) (by kernel_rfl) (fun _ _ _ h=>h) (Or.inl ⟨by rfl,fun W hW=> ?_⟩) s0 ?_
  ·go_simp
  simp only[Act.put,List.getElem_toArray,List.getElem_cons_zero,List.getElem_cons_succ,List.setIfInBounds_toArray,List.set_cons_zero,List.set_cons_succ]
  refine wpAnyH_take (i:=7) (v:= ?_) rfl (by kernel_rfl) (by kernel_rfl) (by kernel_rfl) (fun _ _ _ h=>h) (Or.inl ⟨by rfl,fun W hW=> ?_⟩) s0 ?_
  rotate_left
  ·clear hW
   go_simp
   try with_reducible rfl
  simp only[Act.put,List.getElem_toArray,List.getElem_cons_zero,List.getElem_cons_succ,List.setIfInBounds_toArray,List.set_cons_zero,List.set_cons_succ]
  refine wpAnyH_take (i:=8) (v:= ?_) rfl (by kernel_rfl) (by kernel_rfl) (by kernel_rfl) (fun _ _ _ h=>h) (Or.inl ⟨by rfl,fun W hW=> ?_⟩) s0 ?_
  rotate_left
  ·clear hW
   go_simp
   try with_reducible rfl
  simp only[Act.put,List.getElem_toArray,List.getElem_cons_zero,List.getElem_cons_succ,List.setIfInBounds_toArray,List.set_cons_zero,List.set_cons_succ]
  refine wpAnyH_take (i:=9) (v:= ?_) rfl (by kernel_rfl) (by kernel_rfl) (by kernel_rfl) (fun _ _ _ h=>h) (Or.inl ⟨by rfl,fun W hW=> ?_⟩) s0 ?_
  rotate_left
  ·clear hW
   go_simp
   try with_reducible rfl
  simp only[Act.put,List.getElem_toArray,List.getElem_cons_zero,List.getElem_cons_succ,List.setIfInBounds_toArray,List.set_cons_zero,List.set_cons_succ]
  refine wpAnyH_take (i:=10) (v:=.int .i64 ((k:Int)+1)) rfl (by kernel_rfl) (by kernel_rfl) (by kernel_rfl) (fun _ _ _ h=>h) (Or.inl ⟨by rfl,fun W hW=> ?_⟩) s0 ?_
  ·go_simp
   exact wrap_small (by omega) (by omega)
  simp only[Act.put,List.getElem_toArray,List.getElem_cons_zero,List.getElem_cons_succ,List.setIfInBounds_toArray,List.set_cons_zero,List.set_cons_succ]
  refine wpAnyH_take (i:=11) (v:=vb) rfl (by kernel_rfl) (by kernel_rfl) (by kernel_rfl) (fun _ _ _ h=>h) (Or.inl ⟨by rfl,fun W hW=> ?_⟩) s0 ?_
  ·rw[←HV.out]
   go_simp
   intro hneg
   exfalso
   omega
  simp only[Act.put,List.getElem_toArray,List.getElem_cons_zero,List.getElem_cons_succ,List.setIfInBounds_toArray,List.set_cons_zero,List.set_cons_succ]
  refine wpAnyH_ready (rs:=[12]) (by kernel_rfl) (by simp) (AllReadyH.cons rfl (fun K hK=> ?_) AllReadyH.nil)
  go_simp
  refine hK.out _ _ ?_ (fun s1=> ?_)
  ·show World.cell? _ _=_
   rw[World.cell?_drew,World.cell?_setCell_other _ _ _ _ (fun e=>by injection e with e1;omega),World.cell?_setCell_other _ _ _ _ (fun e=>by injection e with e1;omega)]
   exact r2
  clear hK K s0
  refine wpAnyH_take (i:=13) (v:= ?_) rfl (by kernel_rfl) (by kernel_rfl) (by kernel_rfl) (fun _ _ _ h=>h) (Or.inl ⟨by rfl,fun W hW=> ?_⟩) s1 ?_
  rotate_left
  ·clear hW
   go_simp
   try with_reducible rfl
  simp only[Act.put,List.getElem_toArray,List.getElem_cons_zero,List.getElem_cons_succ,List.setIfInBounds_toArray,List.set_cons_zero,List.set_cons_succ]
  refine wpAnyH_done (by kernel_rfl) ?_ _
  go_wp2_with fail
  refine bodyPost_ret (el_results rfl _ _ w.heap.size (.string nm) (.slice (some ⟨g,off+2,none⟩) (k-1) (l.length+cap-1)) vb rfl rfl A3.out) rfl ⟨⟨_,_,rfl,fun W hWT=>⟨HVA.out W hWT,HVB.out W hWT⟩⟩,?_⟩
  exact (((bO.trans (BU.mono bO.size)).setCell (p:=⟨w.heap.size,0,none⟩) (Nat.le_refl _) _).setCell (p:=⟨w.heap.size,1,none⟩) (Nat.le_refl _) _).drew
 rw[hd]at hz hn
 have hzz: ¬d=0:=by omega
 have HN:Hid (endA (d) (l.drop (k+1))=some (p-(k+1))):=by
  show _=_
  rw[show p-(k+1)=p-k-1 by omega,show d=d+0 by omega]
  exact hn
 clear hn HE2
 go_wp2_with fail
 go_roundw
 case rel=>exact ⟨k+1,d,by omega,by omega,by omega,by go_num,by go_num,HN,BU⟩
 case measure=>simp[intOf]<;>omega
end Go.Proofs.YtfdgehlobbeomaaGreatDoor
