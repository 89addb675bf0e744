/- SiteImpl, DrawWalk. -/
import Derived.Test.YtijliddchoehhaaGreatDoorQA30
set_option maxHeartbeats 4000000
set_option maxRecDepth 100000
namespace Go.Proofs.YtijliddchoehhaaGreatDoor
open Go.RowKit
set_option linter.unusedVariables false
theorem implIsName(s:ByteArray)(w:World)(h:nameL s=some s.data.toList)(hT:Lib.Utf8Tabs 2 3 w):
  Calls Tryz.prog 25 #[.string s] w fun e w'=>e=.returned (.bool true)∧Below w.heap.size w w':=by
 have hs:=(name_parts h).2.2.2.1
 have CN:=implNameOf s w (by omega) hT
 rw[h,show ansS (some s.data.toList)=.tuple #[.string s,.bool true] by
  show Value.tuple #[.string ⟨s.data.toList.toArray⟩,.bool true]=_
  rw[show (⟨s.data.toList.toArray⟩:ByteArray)=s from ba_eq.2 (by simp)]]at CN
 have CN2:=hidden CN
 clear CN h
 go_enter Tryz.func25,Tryz.ntmps25
 go_wp2_with fail
 refine CN2.out.mono ?_
 rintro e w1 ⟨rfl,b1⟩
 go_wp2_with fail
 go_ret
 exact ⟨rfl,b1⟩
theorem suf_yes{l:List RV}{s:ByteArray}(ha:anyX true (fitL l s)=true)(h: ∀r∈l,ruleB r=true):((mostX true (fitL l s):Nat):Int)-1=(sufX l s:Int):=by
 have:=suf_most h ha
 unfold sufX
 rw[if_pos ha]
 omega
theorem suf_no{l:List RV}{s:ByteArray}(ha:anyX true (fitL l s)=false):max ((mostX false (fitL l s):Nat):Int) 1=(sufX l s:Int):=by
 unfold sufX
 rw[ha,if_neg (by decide)]
 omega
theorem implSuffix(l:List RV)(v:Value)(s:ByteArray)(w:World)(hr:rulesB l=true)(h:RuleRow w v l)(hn:nameL s=some s.data.toList)(hT:Lib.Utf8Tabs 2 3 w):
  Calls Tryz.prog 9 #[v,.string s] w fun e w'=>e=.returned (.int .i64 (sufX l s:Int))∧Below w.heap.size w w':=by
 have h60:=rules_60 hr
 have hz:=rules_sz hr
 have hs:=(name_parts hn).2.2.2.1
 have hp:0<(partsL s).length:=List.length_pos_iff.2 (name_parts hn).1
 have CI:Hid (CB 25 #[.string s] w (.bool true)):=implIsName s w hn hT
 have CF:Hid (∀W,Below w.heap.size w W→Calls Tryz.prog 26 #[v,.string s] W fun e w'=> ∃u,e=.returned u∧RuleRow w' u (fitL l s)∧Below W.heap.size W w'):=fun W hW=>implFitting l v s W (by omega) hz (by omega) hp (h.below hW)
 have hfl:(fitL l s).length≤16777216:=by
  have:=flat3_le l s 60 h60 (keys3 s)
  have e:(keys3 s).length=3:=rfl
  rw[e]at this
  show ((keys3 s).flatMap (fitK l s)).length≤_
  omega
 have HFZ:Hid (∀r∈fitL l s,r.ps.length≤2097152):=fun r hr=>(hz r (fitL_mem hr).1).1
 have CM:Hid (∀u ex W,RuleRow W u (fitL l s)→CB 27 #[u,.bool ex] W (.tuple #[.int .i64 ((mostX ex (fitL l s):Nat):Int),.bool (anyX ex (fitL l s))])):=fun u ex W hu=>implMost _ u ex W hfl HFZ.out hu
 have HY:Hid (anyX true (fitL l s)=true→((mostX true (fitL l s):Nat):Int)-1=(sufX l s:Int)):=fun ha=>suf_yes ha (rules_each hr)
 have HN:Hid (anyX true (fitL l s)=false→max ((mostX false (fitL l s):Nat):Int) 1=(sufX l s:Int)):=suf_no
 have hm1:=suf_most_le true (s:=s) (rules_each hr)
 have hm2:=suf_most_le false (s:=s) (rules_each hr)
 obtain ⟨ao,cap,rfl⟩:=h.slice
 clear h hz hs hp HFZ hfl
 generalize sufX l s=Z at*
 generalize fitL l s=F at*
 obtain ⟨m1,hm1e⟩: ∃m,mostX true F=m:=⟨_,rfl⟩
 obtain ⟨m2,hm2e⟩: ∃m,mostX false F=m:=⟨_,rfl⟩
 have CM1:Hid (∀u W,RuleRow W u F→CB 27 #[u,.bool true] W (.tuple #[.int .i64 (m1:Int),.bool (anyX true F)])):=fun u W hu=>by rw[←hm1e];exact CM.out u true W hu
 have CM2:Hid (∀u W,RuleRow W u F→CB 27 #[u,.bool false] W (.tuple #[.int .i64 (m2:Int),.bool (anyX false F)])):=fun u W hu=>by rw[←hm2e];exact CM.out u false W hu
 rw[hm1e]at HY hm1
 rw[hm2e]at HN hm2
 clear hm1e hm2e CM
 generalize anyX false F=A2 at*
 cases hA:anyX true F with
 |true=>
  have HZ:Hid ((m1:Int)-1=(Z:Int)):=HY.out hA
  rw[hA]at CM1
  clear hA HY HN CM2
  go_enter Tryz.func9,Tryz.ntmps9
  go_wp2_with fail
  refine CI.out.mono ?_
  rintro e w1 ⟨rfl,b1⟩
  go_wp2_with fail
  refine (CF.out _ b1).mono ?_
  rintro e w2 ⟨u,rfl,ru,b2⟩
  have B2:=b1.trans (b2.mono b1.size)
  have RU:=hidden ru
  obtain ⟨uo,uc,rfl⟩:=ru.slice
  clear ru b1 b2 CI CF
  go_wp2_with fail
  refine (CM1.out _ _ RU.out).mono ?_
  rintro e w3 ⟨rfl,b3⟩
  have B3:=B2.trans (b3.mono B2.size)
  have RV3:=hidden (RU.out.below b3)
  clear b3 B2 CM1 RU
  go_wp2_with fail
  go_ret
  exact ⟨ret_int HZ.out,B3⟩
 |false=>
  have HZ:Hid (max (m2:Int) 1=(Z:Int)):=HN.out hA
  rw[hA]at CM1
  clear hA HY HN
  go_enter Tryz.func9,Tryz.ntmps9
  go_wp2_with fail
  refine CI.out.mono ?_
  rintro e w1 ⟨rfl,b1⟩
  go_wp2_with fail
  refine (CF.out _ b1).mono ?_
  rintro e w2 ⟨u,rfl,ru,b2⟩
  have B2:=b1.trans (b2.mono b1.size)
  have RU:=hidden ru
  obtain ⟨uo,uc,rfl⟩:=ru.slice
  clear ru b1 b2 CI CF
  go_wp2_with fail
  refine (CM1.out _ _ RU.out).mono ?_
  rintro e w3 ⟨rfl,b3⟩
  have B3:=B2.trans (b3.mono B2.size)
  have RV3:=hidden (RU.out.below b3)
  clear b3 B2 CM1 RU
  go_wp2_with fail
  refine (CM2.out _ _ RV3.out).mono ?_
  rintro e w4 ⟨rfl,b4⟩
  have B4:=B3.trans (b4.mono B3.size)
  clear b4 B3 CM2 RV3
  go_wp2_with fail
  go_ret
  exact ⟨ret_int HZ.out,B4⟩
theorem strrow_take{w:World}{B:Nat}{e:TypeId}{g n cap:Nat}{l:List ByteArray}(h:w.ownsRow B e 1 (.slice (some ⟨g,0,none⟩) n cap) n (scells l))(m:Nat)(hm:m≤n):StrRow w (.slice (some ⟨g,0,none⟩) m cap) (l.take m):=by
 have hl:l.length=n:=by have:=h.1;simpa[scells] using this
 have hc:=own_room h
 have hlen:(l.take m).length=m:=by rw[List.length_take];omega
 by_cases h0:m=0
 ·subst h0
  exact .inl ⟨rfl,_,_,rfl⟩
 refine .inr ⟨by omega,g,0,cap-m,by rw[hlen,Nat.add_sub_cancel' (by omega)],(h.lt g rfl).2,fun i hi=> ?_⟩
 rw[hlen]at hi
 rw[Nat.zero_add,scell_at h i (by omega)]
 rw[List.getD_eq_getElem?_getD,List.getD_eq_getElem?_getD,List.getElem?_take_of_lt (by omega)]
theorem jn_take_le{s:ByteArray}(h:nameL s=some s.data.toList)(m:Nat):(jn 46 ((partsL s).take m).reverse).length≤100000:=by
 have h1:=jn_most 46 63 ((partsL s).take m).reverse (fun x hx=>by
  have:=labL_parts ((name_parts h).2.1 x (List.mem_of_mem_take (List.mem_reverse.1 hx)))
  have hsz:x.data.toList.length=x.size:=by simp
  omega)
 have h2:=parts_most s
 have h3:=(name_parts h).2.2.2.1
 rw[List.length_reverse,List.length_take]at h1
 have:min m (partsL s).length*(63+1)≤254*64:=Nat.mul_le_mul (by omega) (Nat.le_refl _)
 omega
theorem implSite_other(l:List RV)(v:Value)(k n:Int)(s:ByteArray)(x0 x1 x2 x3 x4 x5 x6 x7:Int)(w:World)(hs:s.size≤1048576)(h:RuleRow w v l)(hk: ¬k=1)(ho:0<(hTx ⟨k,s,n,[x0,x1,x2,x3,x4,x5,x6,x7]⟩).size)(hT:Lib.Utf8Tabs 2 3 w)(hP:Pow w)(hD:Bruijn w):
  Calls Tryz.prog 7 #[v,.agg #[.int .i64 k,.string s,.int .i64 n,.int .i64 x0,.int .i64 x1,.int .i64 x2,.int .i64 x3,.int .i64 x4,.int .i64 x5,.int .i64 x6,.int .i64 x7]] w fun e w'=>e=.returned (.string (hTx ⟨k,s,n,[x0,x1,x2,x3,x4,x5,x6,x7]⟩))∧Below w.heap.size w w':=by
 have HA:Hid (∀o,Below w.heap.size w (w.alloc o)):=fun o=>(Below.refl _ w).alloc (Nat.le_refl _) o
 have CT:Hid (∀W,Below w.heap.size w W→CB 8 #[.agg #[.int .i64 k,.string s,.int .i64 n,.int .i64 x0,.int .i64 x1,.int .i64 x2,.int .i64 x3,.int .i64 x4,.int .i64 x5,.int .i64 x6,.int .i64 x7]] W (.string (hTx ⟨k,s,n,[x0,x1,x2,x3,x4,x5,x6,x7]⟩))):=fun W hb=>implHostText k n s x0 x1 x2 x3 x4 x5 x6 x7 W hs (tabs_below hT hb) (pow_below hP hb) (bruijn_below hD hb)
 obtain ⟨ao,cap,rfl⟩:=h.slice
 have hk1:(k==1)=false:=beq_eq_false_iff_ne.2 hk
 have he:=empty_no ho
 generalize hTx ⟨k,s,n,[x0,x1,x2,x3,x4,x5,x6,x7]⟩=T at*
 clear h
 go_enter Tryz.func7,Tryz.ntmps7
 go_wp2_with fail
 refine (CT.out _ (HA.out _)).mono ?_
 rintro e w1 ⟨rfl,b1⟩
 obtain ⟨c0,c1,c2,c3,c4,c5,c6,c7,c8,c9,c10⟩:=host_cells w w1 _ _ _ x0 x1 x2 x3 x4 x5 x6 x7 _ b1
 have B1:=(HA.out (.cells #[.int .i64 k,.string s,.int .i64 n,.int .i64 x0,.int .i64 x1,.int .i64 x2,.int .i64 x3,.int .i64 x4,.int .i64 x5,.int .i64 x6,.int .i64 x7] 27)).trans (b1.mono (by simp))
 clear b1
 go_wp2_with fail
 go_ret
 exact ⟨rfl,B1⟩
theorem implSite_name(l:List RV)(v:Value)(n:Int)(s:ByteArray)(x0 x1 x2 x3 x4 x5 x6 x7:Int)(w:World)(hr:rulesB l=true)(h:RuleRow w v l)(ho:hOk ⟨1,s,n,[x0,x1,x2,x3,x4,x5,x6,x7]⟩=true)(hn:nameL s=some s.data.toList)(hT:Lib.Utf8Tabs 2 3 w)(hP:Pow w)(hD:Bruijn w):
  Calls Tryz.prog 7 #[v,.agg #[.int .i64 1,.string s,.int .i64 n,.int .i64 x0,.int .i64 x1,.int .i64 x2,.int .i64 x3,.int .i64 x4,.int .i64 x5,.int .i64 x6,.int .i64 x7]] w fun e w'=>e=.returned (.string (siteT l s))∧Below w.heap.size w w':=by
 have HA:Hid (∀o,Below w.heap.size w (w.alloc o)):=fun o=>(Below.refl _ w).alloc (Nat.le_refl _) o
 obtain ⟨hp0,hp1,hp2,hs,hs0⟩:=name_parts hn
 have CT:Hid (∀W,Below w.heap.size w W→CB 8 #[.agg #[.int .i64 1,.string s,.int .i64 n,.int .i64 x0,.int .i64 x1,.int .i64 x2,.int .i64 x3,.int .i64 x4,.int .i64 x5,.int .i64 x6,.int .i64 x7]] W (.string s)):=fun W hb=>by
  have:=implHostText 1 n s x0 x1 x2 x3 x4 x5 x6 x7 W (by omega) (tabs_below hT hb) (pow_below hP hb) (bruijn_below hD hb)
  rwa[hTx1 ho]at this
 have CP:Hid (∀W,Calls Tryz.prog 10 #[.string s] W fun e w'=> ∃v,e=.returned v∧w'.ownsRow W.heap.size 9 1 v (partsL s).length (scells (partsL s))∧Below W.heap.size W w'):=fun W=>implParts s W (by omega)
 have CS:Hid (∀W,Below w.heap.size w W→CB 9 #[v,.string s] W (.int .i64 (sufX l s:Int))):=fun W hb=>implSuffix l v s W hr (h.below hb) hn (tabs_below hT hb)
 have hpl:0<(partsL s).length:=List.length_pos_iff.2 hp0
 have hpm:=parts_most s
 have hsx:=suf_le (s:=s) (rules_each hr)
 have hjt:=jn_take_le hn (sufX l s+1)
 have HST:Hid (siteT l s=if (partsL s).length≤sufX l s then s else ⟨(jn 46 ((partsL s).take (sufX l s+1)).reverse).toArray⟩):=rfl
 obtain ⟨ao,cap,rfl⟩:=h.slice
 have he:=empty_no hs0
 clear h hp0 hp1 hp2 hn ho hr
 generalize siteT l s=ST at HST⊢
 generalize sufX l s=N at*
 generalize partsL s=ps at*
 go_enter Tryz.func7,Tryz.ntmps7
 go_wp2_with fail
 refine (CT.out _ (HA.out _)).mono ?_
 rintro e w1 ⟨rfl,b1⟩
 obtain ⟨c0,c1,c2,c3,c4,c5,c6,c7,c8,c9,c10⟩:=host_cells w w1 _ _ _ x0 x1 x2 x3 x4 x5 x6 x7 _ b1
 have B1:=(HA.out (.cells #[.int .i64 1,.string s,.int .i64 n,.int .i64 x0,.int .i64 x1,.int .i64 x2,.int .i64 x3,.int .i64 x4,.int .i64 x5,.int .i64 x6,.int .i64 x7] 27)).trans (b1.mono (by simp))
 clear b1 c1 c2 c3 c4 c5 c6 c7 c8 c9 c10 CT HA
 go_wp2_with fail
 refine (CP.out _).mono ?_
 rintro e w2 ⟨vp,rfl,o2,b2⟩
 rcases own_shape o2 with ⟨h,_⟩|⟨_,g,pc,rfl⟩
 ·omega
 have O2:=hidden o2
 have hroom:=own_room o2
 have B2:=B1.trans (b2.mono B1.size)
 clear b2 B1 CP c0 o2
 go_wp2_with fail
 refine (CS.out _ B2).mono ?_
 rintro e w3 ⟨rfl,b3⟩
 have B3:=B2.trans (b3.mono B2.size)
 have O3:=hidden (own_below O2.out b3)
 clear b3 B2 CS O2
 by_cases hle:ps.length≤N
 ·have HS:Hid (ST=s):=by show _=_;rw[HST.out,if_pos hle]
  have hlei:(ps.length:Int)≤(N:Int):=by omega
  clear HST
  go_wp2_with fail
  go_ret
  exact ⟨by rw[HS.out];rfl,B3⟩
 have HS:Hid (ST=⟨(jn 46 (ps.take (N+1)).reverse).toArray⟩):=by show _=_;rw[HST.out,if_neg hle]
 have hlei: ¬(ps.length:Int)≤(N:Int):=by omega
 have hlen:(ps.take (N+1)).length=N+1:=by rw[List.length_take];omega
 have CN:Hid (CB 21 #[.slice (some ⟨g,0,none⟩) (N+1) pc] w3 (.string ⟨(jn 46 (ps.take (N+1)).reverse).toArray⟩)):=implNameParts (ps.take (N+1)) _ w3 (by omega) (by omega) (by omega) (strrow_take O3.out (N+1) (by omega))
 have h1:(N:Int)+1≤(pc:Int):=by omega
 clear HST O3 hle hlen
 go_wp2_with fail
 refine CN.out.mono ?_
 rintro e w4 ⟨rfl,b4⟩
 go_wp2_with fail
 go_ret
 exact ⟨by rw[HS.out];rfl,B3.trans (b4.mono B3.size)⟩
end Go.Proofs.YtijliddchoehhaaGreatDoor
namespace Go.Proofs.YtijliddchoehhaaGreatDoor
open Go.RowKit
def CodeRow(D:Nat)(w:World)(ao:Option Addr)(len:Nat):Prop:=
 len=0∨ ∃b off,ao=some ⟨b,off,none⟩∧b<D∧ ∀j,j<len→ ∃x:Int,w.cell? ⟨b,off+j,none⟩=some (.int .u8 x)∧0≤x∧x≤255
def Cur(D B:Nat)(ao:Option Addr)(len cap:Nat)(w:World):Prop:=
 ∃i h:Int,w.heap[B]? =some (.cells #[.slice ao len cap,.int .i64 i,.int .i64 h] 74 (0,0))∧0≤i∧i≤len∧len≤1048576∧D≤B∧CodeRow D w ao len
theorem i64_and255(n:Int):bits .and .i64 n 255=n%256:=by
 have h255:(BitVec.ofInt 64 255).toNat=2^8-1:=by decide
 have key:(BitVec.ofInt 64 n&&&BitVec.ofInt 64 255).toNat=(n%((2^64:Nat):Int)).toNat%2^8:=by
  rw[BitVec.toNat_and,BitVec.toNat_ofInt,h255,Nat.and_two_pow_sub_one_eq_mod]
 show IntKind.i64.wrap ((BitVec.ofInt 64 n&&&BitVec.ofInt 64 255).toNat:Nat)=n%256
 rw[key,IntKind.wrap_i64]
 omega
theorem CodeRow.grown{D:Nat}{w w':World}{ao:Option Addr}{len:Nat}(h:CodeRow D w ao len)(hb: ∀k,k<D→w'.heap[k]? =w.heap[k]?):CodeRow D w' ao len:=by
 rcases h with h|⟨b,off,h1,h2,h3⟩
 ·exact .inl h
 refine .inr ⟨b,off,h1,h2,fun j hj=> ?_⟩
 obtain ⟨x,h4,h5⟩:=h3 j hj
 exact ⟨x,(World.cell?_of_block (w:=w) (a:=⟨b,off+j,none⟩) (hb b h2)).trans h4,h5⟩
theorem heap_set3{w:World}{B k:Nat}{cs:Array Value}{t:TypeId}(v:Value)(h:w.heap[B]? =some (.cells cs t (0,0))):(w.setCell ⟨B,k,none⟩ v).heap[B]? =some (.cells (cs.setIfInBounds k v) t (0,0)):=
 heap_setCell_same w B k cs t v h
theorem Cur.seth{D B:Nat}{ao:Option Addr}{len cap:Nat}{w:World}{i h:Int}(hc:w.heap[B]? =some (.cells #[.slice ao len cap,.int .i64 i,.int .i64 h] 74 (0,0)))(h0:0≤i)(h1:i≤len)(hl:len≤1048576)(hDB:D≤B)(hcode:CodeRow D w ao len)(h':Int):
  Cur D B ao len cap (w.setCell ⟨B,2,none⟩ (.int .i64 h'))∧w.grownBy (w.setCell ⟨B,2,none⟩ (.int .i64 h')) (some B):=by
 refine ⟨⟨i,h',?_,h0,h1,hl,hDB,hcode.grown fun k hk=>Below.heap_setCell _ _ _ _ (by simp;omega)⟩,⟨rfl,rfl,rfl,by simp[World.setCell],fun k _ hk=>Below.heap_setCell _ _ _ _ (fun e=>hk (by simp[e]))⟩⟩
 rw[heap_set3 _ hc]
 rfl
theorem Cur.seti{D B:Nat}{ao:Option Addr}{len cap:Nat}{w:World}{i h:Int}(hc:w.heap[B]? =some (.cells #[.slice ao len cap,.int .i64 i,.int .i64 h] 74 (0,0)))(hl:len≤1048576)(hDB:D≤B)(hcode:CodeRow D w ao len)(i':Int)(h0:0≤i')(h1:i'≤len):
  Cur D B ao len cap (w.setCell ⟨B,1,none⟩ (.int .i64 i'))∧w.grownBy (w.setCell ⟨B,1,none⟩ (.int .i64 i')) (some B):=by
 refine ⟨⟨i',h,?_,h0,h1,hl,hDB,hcode.grown fun k hk=>Below.heap_setCell _ _ _ _ (by simp;omega)⟩,⟨rfl,rfl,rfl,by simp[World.setCell],fun k _ hk=>Below.heap_setCell _ _ _ _ (fun e=>hk (by simp[e]))⟩⟩
 rw[heap_set3 _ hc]
 rfl
theorem cur_cells{w:World}{B:Nat}{a b c:Value}{t:TypeId}(h:w.heap[B]? =some (.cells #[a,b,c] t (0,0))):
  w.cell? ⟨B,0,none⟩=some a∧w.cell? ⟨B,1,none⟩=some b∧w.cell? ⟨B,2,none⟩=some c∧ ∀j,w.frozen? ⟨B,j,none⟩=false:=by
 refine ⟨?_,?_,?_,fun j=>frozen_of_row w B j _ t h⟩<;>(rw[cell_of_row w B _ _ t (0,0) h];rfl)
theorem Cur.drewN{D B:Nat}{ao:Option Addr}{len cap:Nat}{w:World}(h:Cur D B ao len cap w)(n:Nat):Cur D B ao len cap (w.drewN n):=h
theorem grow_drewN{w w':World}{row:Option Nat}(h:w.grownBy w' row)(n:Nat):w.grownBy (w'.drewN n) row:=⟨h.os,h.tape,h.output,h.size,h.block⟩
theorem l1Byte(D B:Nat)(ao:Option Addr)(len cap:Nat)(w:World)(hcur:Cur D B ao len cap w):
  Calls Tryz.prog 69 #[.pointer (some ⟨B,0,none⟩)] w fun e w'=> ∃x:Int,0≤x∧x≤255∧e=.returned (.int .i64 x)∧Cur D B ao len cap w'∧w.grownBy w' (some B):=by
 obtain ⟨i,h,hc,h0,h1,hl,hDB,hcode⟩:=hcur
 obtain ⟨c0,c1,c2,cf⟩:=cur_cells hc
 have f2:=cf 2
 have HS:Hid (∀h',Cur D B ao len cap (w.setCell ⟨B,2,none⟩ (.int .i64 h'))∧w.grownBy (w.setCell ⟨B,2,none⟩ (.int .i64 h')) (some B)):=fun h'=>Cur.seth hc h0 h1 hl hDB hcode h'
 clear hc cf hcode hDB
 go_enter Tryz.func69,Tryz.ntmps69
 go_upto_region 1 with fail
 go_cut [] (fun w1=>Cur D B ao len cap w1∧w.grownBy w1 (some B))
 case first=>
  go_wp2_with fail
  go_meet
  case rel=>exact HS.out _
 clear HS c0 c1 c2 f2 h0 h1 hl
 go_upto_region 2 with fail
 go_cut [3] (fun v w1=> ∃x:Int,v=.int .i64 x∧0≤x∧x≤255∧Cur D B ao len cap w1∧w.grownBy w1 (some B))
 case first=>
  obtain ⟨hcu,hgr⟩:=hcut
  have HU:Hid (Cur D B ao len cap wc):=hcu
  obtain ⟨i',h',hc,h0,h1,hl,hDB,hcode⟩:=hcu
  obtain ⟨c0,c1,c2,cf⟩:=cur_cells hc
  clear hc hcode cf hDB
  go_quiet (fail)
  go_wp2_with fail
  go_meet
  case rel=>
   refine ⟨_,rfl,?_,?_,HU.out.drewN _,grow_drewN hgr _⟩
   ·rw[i64_and255];omega
   rw[i64_and255];omega
 obtain ⟨x,rfl,hx0,hx1,hcu,hgr⟩:=hcut
 have HU:Hid (Cur D B ao len cap wc):=hcu
 obtain ⟨i',h',hc,h0,h1,hl,hDB,hcode⟩:=hcu
 have HI:Hid (∀i'':Int,0≤i''→i''≤len→Cur D B ao len cap (wc.setCell ⟨B,1,none⟩ (.int .i64 i''))∧wc.grownBy (wc.setCell ⟨B,1,none⟩ (.int .i64 i'')) (some B)):=fun i'' a b=>Cur.seti hc hl hDB hcode i'' a b
 obtain ⟨c0,c1,c2,cf⟩:=cur_cells hc
 have f1:=cf 1
 clear hc cf hDB
 by_cases hlt:i'<(len:Int)
 ·rcases hcode with hz|⟨b,off,rfl,hb,hcells⟩
  ·omega
  obtain ⟨n,rfl⟩:=Int.eq_ofNat_of_zero_le h0
  obtain ⟨y,cy,hy0,hy1⟩:=hcells n (by omega)
  clear hcells c2
  go_wp2_with fail
  go_quiet (fail)
  go_wp2_with fail
  go_quiet (fail)
  go_wp2_with fail
  go_ret
  refine ⟨_,?_,?_,rfl,?_,?_⟩
  ·rw[i64_and255];omega
  ·rw[i64_and255];omega
  ·exact (HI.out ((n:Int)+1) (by omega) (by omega)).1
  have g:=grow_trans hgr (HI.out ((n:Int)+1) (by omega) (by omega)).2
  exact ⟨g.os,g.tape,g.output,g.size,g.block⟩
 clear hcode c2 f1
 go_wp2_with fail
 go_quiet (fail)
 go_wp2_with fail
 go_ret
 exact ⟨x,hx0,hx1,rfl,HU.out.drewN _,grow_drewN hgr _⟩
theorem l1Below(n:Int)(D B:Nat)(ao:Option Addr)(len cap:Nat)(w:World)(hn:0<n)(hn1:n≤1099511627776)(hcur:Cur D B ao len cap w):
  Calls Tryz.prog 40 #[.pointer (some ⟨B,0,none⟩),.int .i64 n] w fun e w'=> ∃x:Int,0≤x∧x<n∧e=.returned (.int .i64 x)∧Cur D B ao len cap w'∧w.grownBy w' (some B):=by
 have hz: ¬n≤0:=by omega
 have hne:(n==0)=false:=by simp;omega
 have HC:Hid (Cur D B ao len cap w):=hcur
 clear hcur
 by_cases h256:n≤256
 ·go_enter Tryz.func40,Tryz.ntmps40
  go_wp2_with fail
  refine (l1Byte _ _ _ _ _ _ HC.out).mono ?_
  rintro e wa ⟨x,hx0,hx1,rfl,ca,ga⟩
  have CA:Hid (Cur D B ao len cap wa):=ca
  clear ca
  go_wp2_with fail
  go_ret
  refine ⟨_,?_,?_,rfl,CA.out,ga⟩
  ·first|exact Int.emod_nonneg _ (by omega)|omega
  first|exact Int.emod_lt_of_pos _ hn|omega
 go_enter Tryz.func40,Tryz.ntmps40
 go_wp2_with fail
 refine (l1Byte _ _ _ _ _ _ HC.out).mono ?_
 rintro e wa ⟨x,hx0,hx1,rfl,ca,ga⟩
 have CA:Hid (Cur D B ao len cap wa):=ca
 clear ca
 go_wp2_with fail
 refine (l1Byte _ _ _ _ _ _ CA.out).mono ?_
 rintro e wb ⟨y,hy0,hy1,rfl,cb,gb⟩
 have CB:Hid (Cur D B ao len cap wb):=cb
 clear cb
 go_wp2_with fail
 refine (l1Byte _ _ _ _ _ _ CB.out).mono ?_
 rintro e wc ⟨z,hz0,hz1,rfl,cc,gc⟩
 have CC:Hid (Cur D B ao len cap wc):=cc
 clear cc
 go_wp2_with fail
 go_ret
 refine ⟨_,?_,?_,rfl,CC.out,grow_trans (grow_trans ga gb) gc⟩
 ·first|exact Int.emod_nonneg _ (by omega)|omega
 first|exact Int.emod_lt_of_pos _ hn|omega
theorem l1Once(n:Int)(D B:Nat)(ao:Option Addr)(len cap:Nat)(w:World)(hn:0<n)(hn1:n≤1099511627776)(hcur:Cur D B ao len cap w):
  Calls Tryz.prog 41 #[.pointer (some ⟨B,0,none⟩),.int .i64 n] w fun e w'=> ∃b:Bool,e=.returned (.bool b)∧Cur D B ao len cap w'∧w.grownBy w' (some B):=by
 have HC:Hid (Cur D B ao len cap w):=hcur
 clear hcur
 go_enter Tryz.func41,Tryz.ntmps41
 go_wp2_with fail
 refine (l1Below n _ _ _ _ _ _ hn hn1 HC.out).mono ?_
 rintro e wa ⟨x,hx0,hx1,rfl,ca,ga⟩
 have CA:Hid (Cur D B ao len cap wa):=ca
 clear ca
 go_wp2_with fail
 go_ret
 exact ⟨_,rfl,CA.out,ga⟩
theorem l1Int(m g cp G:Nat)(zs:List Int)(D B:Nat)(ao:Option Addr)(len cap:Nat)(w:World)(hm:0<m)(hm1:m≤1099511627776)(hcur:Cur D B ao len cap w)
  (hown:w.ownsRow G 3 1 (.slice (some ⟨g,0,none⟩) m cp) m (icells zs)) (hgB:g≠B):
  Calls Tryz.prog 72 #[.pointer (some ⟨B,0,none⟩),.slice (some ⟨g,0,none⟩) m cp] w fun e w'=> ∃z:Int,z∈zs∧e=.returned (.int .i64 z)∧Cur D B ao len cap w'∧w.grownBy w' (some B):=by
 have HC:Hid (Cur D B ao len cap w):=hcur
 clear hcur
 go_enter Tryz.func72,Tryz.ntmps72
 go_wp2_with fail
 refine (l1Below (m:Int) _ _ _ _ _ _ (by omega) (by omega) HC.out).mono ?_
 rintro e wa ⟨x,hx0,hx1,rfl,ca,ga⟩
 have CA:Hid (Cur D B ao len cap wa):=ca
 have oa:wa.ownsRow G 3 1 (.slice (some ⟨g,0,none⟩) m cp) m (icells zs):=hown.kept ga (by simp[Value.ownBlock,hgB])
 obtain ⟨k,rfl⟩:=Int.eq_ofNat_of_zero_le hx0
 have cc:=icell_at oa k (by omega)
 have hl:zs.length=m:=by have:=hown.1;simpa[icells] using this
 have HM:Hid (zs.getD k 0∈zs):=by
  show _∈_
  rw[List.getD_eq_getElem?_getD,List.getElem?_eq_getElem (by omega)]
  exact List.getElem_mem _
 clear ca oa hown hl
 generalize zs.getD k 0=z at*
 go_wp2_with fail
 go_ret
 exact ⟨z,HM.out,rfl,CA.out,ga⟩
theorem l1Str(m g cp G:Nat)(fs:List ByteArray)(D B:Nat)(ao:Option Addr)(len cap:Nat)(w:World)(hm:0<m)(hm1:m≤1099511627776)(hcur:Cur D B ao len cap w)
  (hown:w.ownsRow G 9 1 (.slice (some ⟨g,0,none⟩) m cp) m (scells fs)) (hgB:g≠B):
  Calls Tryz.prog 39 #[.pointer (some ⟨B,0,none⟩),.slice (some ⟨g,0,none⟩) m cp] w fun e w'=> ∃z:ByteArray,z∈fs∧e=.returned (.string z)∧Cur D B ao len cap w'∧w.grownBy w' (some B):=by
 have HC:Hid (Cur D B ao len cap w):=hcur
 clear hcur
 go_enter Tryz.func39,Tryz.ntmps39
 go_wp2_with fail
 refine (l1Below (m:Int) _ _ _ _ _ _ (by omega) (by omega) HC.out).mono ?_
 rintro e wa ⟨x,hx0,hx1,rfl,ca,ga⟩
 have CA:Hid (Cur D B ao len cap wa):=ca
 have oa:wa.ownsRow G 9 1 (.slice (some ⟨g,0,none⟩) m cp) m (scells fs):=hown.kept ga (by simp[Value.ownBlock,hgB])
 obtain ⟨k,rfl⟩:=Int.eq_ofNat_of_zero_le hx0
 have cc:=scell_at oa k (by omega)
 have hl:fs.length=m:=by have:=hown.1;simpa[scells] using this
 have HM:Hid (fs.getD k ByteArray.empty∈fs):=by
  show _∈_
  rw[List.getD_eq_getElem?_getD,List.getElem?_eq_getElem (by omega)]
  exact List.getElem_mem _
 clear ca oa hown hl
 generalize fs.getD k ByteArray.empty=z at*
 go_wp2_with fail
 go_ret
 exact ⟨z,HM.out,rfl,CA.out,ga⟩
theorem l1New(ao:Option Addr)(len cap:Nat)(w:World)(hl:len≤1048576)(hcode:CodeRow w.heap.size w ao len):
  Calls Tryz.prog 18 #[.slice ao len cap] w fun e w'=> ∃B:Nat,e=.returned (.pointer (some ⟨B,0,none⟩))∧w.heap.size≤B∧Cur w.heap.size B ao len cap w'∧Below w.heap.size w w':=by
 have HC:Hid (∀h:Int,Cur w.heap.size w.heap.size ao len cap (w.alloc (.cells #[.slice ao len cap,.int .i64 0,.int .i64 h] 74))):=fun h=>
  ⟨0,h,heap_alloc_new w _,by omega,by omega,hl,Nat.le_refl _,hcode.grown fun k hk=>Below.heap_alloc w _ k hk⟩
 have HD:Hid (CodeRow w.heap.size w ao len):=hcode
 clear hcode
 go_enter Tryz.func18,Tryz.ntmps18
 go_wp2
 go_loop[3,4] (fun a i=> ∃(k:Nat) (h:Int),k≤len∧i=.int .i64 k∧a=.int .i64 h) (fun _ i=>len-(intOf i).toNat)
 case atStart=>exact ⟨0,_,Nat.zero_le _,rfl,rfl⟩
 obtain ⟨k,h,hk,rfl,rfl⟩:=hrel
 by_cases hlt:k<len
 ·by_cases h4:(k:Int)<4000
  ·rcases HD.out with hz|⟨b,off,rfl,hb,hcells⟩
   ·omega
   obtain ⟨y,cy,hy0,hy1⟩:=hcells k hlt
   clear hcells
   go_wp2
   go_round
   case rel=>exact ⟨k+1,_,by omega,by go_num,rfl⟩
   case measure=>simp[intOf];omega
  go_wp2
  go_ret
  exact ⟨w.heap.size,rfl,Nat.le_refl _,HC.out h,(Below.refl _ _).alloc (Nat.le_refl _) _⟩
 go_wp2
 go_ret
 exact ⟨w.heap.size,rfl,Nat.le_refl _,HC.out h,(Below.refl _ _).alloc (Nat.le_refl _) _⟩
def strsOk(M:Nat)(xs:List Value):Bool:=xs.all fun| .string z=>decide (z.size≤M)|_=>false
theorem strsOk_scells{M:Nat}: ∀{xs:List Value},strsOk M xs=true→ ∃fs:List ByteArray,xs=scells fs∧ ∀z∈fs,z.size≤M
 |[],_=>⟨[],rfl,fun z h=>by simp at h⟩
 |u::xs,h=>by
  simp only[strsOk,List.all_cons,Bool.and_eq_true]at h
  obtain ⟨h1,h2⟩:=h
  obtain ⟨fs,rfl,hf⟩:=strsOk_scells (xs:=xs) h2
  cases u with
  |string z=>exact ⟨z::fs,rfl,fun y hy=>by rcases List.mem_cons.1 hy with rfl|hy;exact of_decide_eq_true h1;exact hf y hy⟩
  |_=>simp at h1
theorem l1StrX(M m g cp G:Nat)(xs:List Value)(D B:Nat)(ao:Option Addr)(len cap:Nat)(w:World)(hm:0<m)(hm1:m≤1099511627776)(hcur:Cur D B ao len cap w)
  (hown:w.ownsRow G 9 1 (.slice (some ⟨g,0,none⟩) m cp) m xs) (hgB:g≠B) (hx:strsOk M xs=true):
  Calls Tryz.prog 39 #[.pointer (some ⟨B,0,none⟩),.slice (some ⟨g,0,none⟩) m cp] w fun e w'=> ∃z:ByteArray,z.size≤M∧e=.returned (.string z)∧Cur D B ao len cap w'∧w.grownBy w' (some B):=by
 obtain ⟨fs,rfl,hf⟩:=strsOk_scells hx
 refine (l1Str m g cp G fs D B ao len cap w hm hm1 hcur hown hgB).mono ?_
 rintro e w' ⟨z,hz,he,hc,hg⟩
 exact ⟨z,hf z hz,he,hc,hg⟩
theorem Cur.lt{D B:Nat}{ao:Option Addr}{len cap:Nat}{w:World}(h:Cur D B ao len cap w):B<w.heap.size:=by
 obtain ⟨i,h',hc,_⟩:=h
 exact (Array.getElem?_eq_some_iff.1 hc).1
theorem Cur.keep{D B:Nat}{ao:Option Addr}{len cap:Nat}{w w':World}(h:Cur D B ao len cap w)(hB:w'.heap[B]? =w.heap[B]?)(hD: ∀k,k<D→w'.heap[k]? =w.heap[k]?):Cur D B ao len cap w':=by
 obtain ⟨i,h',hc,h0,h1,hl,hDB,hcode⟩:=h
 exact ⟨i,h',hB.trans hc,h0,h1,hl,hDB,hcode.grown hD⟩
theorem Cur.le{D B:Nat}{ao:Option Addr}{len cap:Nat}{w:World}(h:Cur D B ao len cap w):D≤B:=by
 obtain ⟨i,h',hc,h0,h1,hl,hDB,hcode⟩:=h
 exact hDB
theorem Cur.below{D B:Nat}{ao:Option Addr}{len cap:Nat}{w w':World}(h:Cur D B ao len cap w)(hb: ∀k,k<w.heap.size→w'.heap[k]? =w.heap[k]?):Cur D B ao len cap w':=by
 have hlt:=h.lt
 have hle:=h.le
 exact h.keep (hb B hlt) fun k hk=>hb k (by omega)
theorem Cur.alloc{D B:Nat}{ao:Option Addr}{len cap:Nat}{w:World}(h:Cur D B ao len cap w)(o:Obj):Cur D B ao len cap (w.alloc o):=h.below fun k hk=>Below.heap_alloc w o k hk
theorem grow_alloc{w w1:World}{row:Option Nat}(h:w.grownBy w1 row)(o:Obj):w.grownBy (w1.alloc o) row:=grow_trans h (World.grownBy_alloc w1 o row)
theorem big_no(ao:Option Addr)(len cap:Nat)(w:World)(h:(len:Int)≤1048576):Calls Tryz.prog 5 #[.slice ao len cap] w fun e w'=>e=.returned (.bool false)∧w=w':=by
 go_enter Tryz.func5,Tryz.ntmps5
 go_wp2
 go_ret
 exact ⟨ret_bool (by simp<;>omega),rfl⟩
theorem big_yes(ao:Option Addr)(len cap:Nat)(w:World)(h:1048576<(len:Int)):Calls Tryz.prog 5 #[.slice ao len cap] w fun e w'=>e=.returned (.bool true)∧w=w':=by
 go_enter Tryz.func5,Tryz.ntmps5
 go_wp2
 go_ret
 exact ⟨ret_bool (by simp<;>omega),rfl⟩
theorem CodeRow.le{D D':Nat}{w:World}{ao:Option Addr}{len:Nat}(h:CodeRow D w ao len)(hD:D≤D'):CodeRow D' w ao len:=by
 rcases h with h|⟨b,off,h1,h2,h3⟩
 ·exact .inl h
 exact .inr ⟨b,off,h1,by omega,h3⟩
theorem CodeRow.later{w w':World}{ao:Option Addr}{len:Nat}(h:CodeRow w.heap.size w ao len)(hb:Below w.heap.size w w'):CodeRow w'.heap.size w' ao len:=
 (h.grown hb.block).le hb.size
end Go.Proofs.YtijliddchoehhaaGreatDoor
