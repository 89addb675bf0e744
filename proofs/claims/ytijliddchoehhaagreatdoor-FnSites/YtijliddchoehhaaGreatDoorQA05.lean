/- Ip4Spec, Ip4Impl, MaxLaid, LaidPow, Ip6Plain, HexImpl. -/
import Derived.Test.YtijliddchoehhaaGreatDoorQA04
import Derived.Lib.AppendIntMem
import Derived.Lib.LaidTab
import Derived.Lib.LaidU8
set_option maxHeartbeats 8000000
set_option maxRecDepth 20000
namespace Go.Proofs.YtijliddchoehhaaGreatDoor
open Go.RowKit
theorem cat_bytes(a b:List UInt8):((⟨a.toArray⟩:ByteArray)++(⟨b.toArray⟩:ByteArray))=⟨(a++b).toArray⟩:=by
 apply ByteArray.ext
 rw[ByteArray.data_append]
 simp
def ip4T(n:Int):ByteArray:=⟨(ip4L n.toNat).toArray⟩
def Pow(w:World):Prop:=Lib.TabIs Tryz.prog w "internal/strconv.uint64pow10" .u64 Lib.pow10Tab
theorem pow_below{w w':World}(h:Pow w)(hb:Below w.heap.size w w'):Pow w':=Lib.tabBelow_of_tabIs h w' hb
theorem itoa_dec3{i:Int}(h0:0≤i)(h1:i<1000):Lib.itoa i=dec3 i.toNat:=by
 obtain ⟨u,rfl⟩:=Int.eq_ofNat_of_zero_le h0
 rw[Lib.itoa_nonneg,Int.toNat_natCast]
 have hu:u<1000:=by omega
 unfold dec3
 by_cases c1:u<10
 ·rw[if_pos c1,Lib.decDigits_one c1]
 by_cases c2:u<100
 ·rw[if_neg c1,if_pos c2,Lib.decDigits_two c1 c2]
 rw[if_neg c1,if_neg c2,Lib.decDigits,dif_neg c1,Lib.decDigits_two (by omega) (by omega)]
 rw[show u/10/10=u/100 by omega]
 rfl
theorem implAppDec(B:Nat)(i:Int)(v:Value)(l:List UInt8)(w:World)(h0:0≤i)(h1:i<1000)(hown:w.ownsRow B 5 1 v l.length (bcells l))(hB:B≤w.heap.size)(hl:l.length≤1000)
  (hT:Lib.TabBelow Tryz.prog B w "internal/strconv.uint64pow10" .u64 Lib.pow10Tab):
  Calls Tryz.prog 81 #[v,.int .i64 i,.int .i64 10] w fun e w'=> ∃v',e=.returned v'∧w'.ownsRow B 5 1 v' (l++dec3 i.toNat).length (bcells (l++dec3 i.toNat))∧Below B w w':=by
 refine (Tryz.strconv_AppendInt_10 B l.length i (by omega) (by omega) v (bcells l) w hown hB (by omega) hT).mono ?_
 rintro e w' ⟨v',rfl,h2,h3,_⟩
 refine ⟨v',rfl,?_,h3⟩
 rw[itoa_dec3 h0 h1]at h2
 rw[bcells_append,List.length_append]
 exact h2
def pre4(n:Int):Nat→List UInt8
 |0=>[]
 |1=>dec3 (n/16777216).toNat++[46]
 |2=>dec3 (n/16777216).toNat++[46]++dec3 (n/65536%256).toNat++[46]
 |_=>dec3 (n/16777216).toNat++[46]++dec3 (n/65536%256).toNat++[46]++dec3 (n/256%256).toNat++[46]
theorem pre4_len(n:Int)(k:Nat):(pre4 n k).length≤100:=by
 have h1:=dec3_len (n/16777216).toNat
 have h2:=dec3_len (n/65536%256).toNat
 have h3:=dec3_len (n/256%256).toNat
 match k with
 |0=>simp[pre4]
 |1=>simp[pre4];omega
 |2=>simp[pre4];omega
 |_+3=>simp[pre4];omega
theorem pre4_end{n:Int}(h0:0≤n):(⟨(pre4 n 3++dec3 (n%256).toNat).toArray⟩:ByteArray)=ip4T n:=by
 unfold ip4T ip4L pre4
 have e1:(n/16777216).toNat=n.toNat/16777216:=by omega
 have e2:(n/65536%256).toNat=n.toNat/65536%256:=by omega
 have e3:(n/256%256).toNat=n.toNat/256%256:=by omega
 have e4:(n%256).toNat=n.toNat%256:=by omega
 rw[e1,e2,e3,e4]
 simp
def room4:Nat→Int
 |0=>16777216
 |1=>65536
 |2=>256
 |3=>1
 |_=>0
theorem implIp4Text(n:Int)(w:World)(h0:0≤n)(h1:n<4294967296)(hT:Pow w):
  Calls Tryz.prog 50 #[.int .i64 n] w fun e w'=>e=.returned (.string (ip4T n))∧Below w.heap.size w w':=by
 obtain ⟨i0,hi,hz0,hz1,hz2⟩:=info_parts Tryz.info5
 have HT:Hid (Lib.TabBelow Tryz.prog w.heap.size w "internal/strconv.uint64pow10" .u64 Lib.pow10Tab):=Lib.tabBelow_of_tabIs hT
 clear hT
 go_enter Tryz.func50,Tryz.ntmps50
 go_wp2_with (at_make;refine wpList_make_own _ rfl _ _ 22 rfl w.heap.size 5 i0 (.int .u8 0) 1 Tryz.underlying22 hi hz0 hz1 _ _ _ 15 rfl rfl (by omega) (by rw[hz2];omega) (by unfold maxLen;omega) (Nat.le_refl _) ?_)
 intro wm hmo hgm
 have Bm:Below w.heap.size w wm:=(Below.refl _ _).grown hgm (Nat.le_refl _) (fun k hk=>by cases hk)
 have o9:wm.ownsRow w.heap.size 5 1 (.slice (some ⟨w.heap.size,0,none⟩) 0 15) 0 []:=hmo
 clear hmo hgm
 go_wp2_with fail
 go_loopw[3,4] (fun v r wr=> ∃k:Nat,k≤4∧r=.int .i64 (room4 k)∧(k≤3→wr.ownsRow w.heap.size 5 1 v (pre4 n k).length (bcells (pre4 n k)))∧(k=4→wr.ownsRow w.heap.size 5 1 v (pre4 n 3++dec3 (n%256).toNat).length (bcells (pre4 n 3++dec3 (n%256).toNat)))∧Below w.heap.size w wr)
  (fun _ r _=>(intOf r).toNat)
 case atStart=>exact ⟨0,by omega,rfl,fun _=>o9,fun h=>by omega,Bm⟩
 obtain ⟨k,hk,rfl,hin,hend,hbel⟩:=hrel
 clear o9 Bm hi hz0 hz1 hz2
 have hsz:=hbel.size
 have h5:k=0∨k=1∨k=2∨k=3∨k=4:=by omega
 have HTW:Hid (Lib.TabBelow Tryz.prog w.heap.size wr "internal/strconv.uint64pow10" .u64 Lib.pow10Tab):=HT.out.on hbel
 rcases h5 with rfl|rfl|rfl|rfl|rfl
 ·have e0:n/16777216%256=n/16777216:=by omega
  have HI:Hid (∀(v:Value) (W:World),W.ownsRow w.heap.size 5 1 v (pre4 n 0).length (bcells (pre4 n 0))→w.heap.size≤W.heap.size→Lib.TabBelow Tryz.prog w.heap.size W "internal/strconv.uint64pow10" .u64 Lib.pow10Tab→Calls Tryz.prog 81 #[v,.int .i64 (n/16777216),.int .i64 10] W fun e w'=> ∃v',e=.returned v'∧w'.ownsRow w.heap.size 5 1 v' (pre4 n 0++dec3 (n/16777216).toNat).length (bcells (pre4 n 0++dec3 (n/16777216).toNat))∧Below w.heap.size W w'):=fun v W ho hB hT=>implAppDec w.heap.size _ v _ W (by omega) (by omega) ho hB (by have:=pre4_len n 0;omega) hT
  have o1:=hin (by omega)
  have hl:=pre4_len n 0
  have hl2:=dec3_len (n/16777216).toNat
  clear hin hend
  simp only[room4]
  go_wp2_with fail
  refine (HI.out _ _ o1 hsz HTW.out).mono ?_
  rintro e wb ⟨vb,rfl,o2,b2⟩
  have B2:=hbel.trans b2
  have z2:=B2.size
  have hl3:(pre4 n 0++dec3 (n/16777216).toNat).length≤200:=by rw[List.length_append];omega
  clear o1 hbel b2 HTW HI
  obtain ⟨L,hL⟩: ∃L,pre4 n 0++dec3 (n/16777216).toNat=L:=⟨_,rfl⟩
  rw[hL]at o2 hl3
  have HL:Hid (pre4 n 0++dec3 (n/16777216).toNat=L):=hL
  clear hL
  go_wp2_with (at_builtin;refine wpList_append_new _ rfl _ _ 22 rfl w.heap.size 5 (.int .u8 0) 1 Tryz.underlying22 Tryz.info5 rfl _ _ _ rfl o2 #[.int .u8 46] 1 rfl rfl (by intro u hu;simp at hu;subst hu;rfl) (by omega) (by unfold maxLen;omega) z2 ?_)
  intro v' w1 o3 b3
  have R:w1.ownsRow w.heap.size 5 1 v' (pre4 n 1).length (bcells (pre4 n 1)):=by
   rw[show pre4 n 1=L++[46] by rw[←HL.out];simp[pre4],bcells_snoc,List.length_append]
   exact o3
  have B3:=B2.trans b3
  clear o2 o3 b3 B2
  go_wp2_with fail
  go_roundw
  case rel=>exact ⟨1,by omega,rfl,fun _=>R,fun h=>by omega,B3⟩
  case measure=>simp[intOf]
 ·have HI:Hid (∀(v:Value) (W:World),W.ownsRow w.heap.size 5 1 v (pre4 n 1).length (bcells (pre4 n 1))→w.heap.size≤W.heap.size→Lib.TabBelow Tryz.prog w.heap.size W "internal/strconv.uint64pow10" .u64 Lib.pow10Tab→Calls Tryz.prog 81 #[v,.int .i64 (n/65536%256),.int .i64 10] W fun e w'=> ∃v',e=.returned v'∧w'.ownsRow w.heap.size 5 1 v' (pre4 n 1++dec3 (n/65536%256).toNat).length (bcells (pre4 n 1++dec3 (n/65536%256).toNat))∧Below w.heap.size W w'):=fun v W ho hB hT=>implAppDec w.heap.size _ v _ W (by omega) (by omega) ho hB (by have:=pre4_len n 1;omega) hT
  have o1:=hin (by omega)
  have hl:=pre4_len n 1
  have hl2:=dec3_len (n/65536%256).toNat
  clear hin hend
  simp only[room4]
  go_wp2_with fail
  refine (HI.out _ _ o1 hsz HTW.out).mono ?_
  rintro e wb ⟨vb,rfl,o2,b2⟩
  have B2:=hbel.trans b2
  have z2:=B2.size
  have hl3:(pre4 n 1++dec3 (n/65536%256).toNat).length≤200:=by rw[List.length_append];omega
  clear o1 hbel b2 HTW HI
  obtain ⟨L,hL⟩: ∃L,pre4 n 1++dec3 (n/65536%256).toNat=L:=⟨_,rfl⟩
  rw[hL]at o2 hl3
  have HL:Hid (pre4 n 1++dec3 (n/65536%256).toNat=L):=hL
  clear hL
  go_wp2_with (at_builtin;refine wpList_append_new _ rfl _ _ 22 rfl w.heap.size 5 (.int .u8 0) 1 Tryz.underlying22 Tryz.info5 rfl _ _ _ rfl o2 #[.int .u8 46] 1 rfl rfl (by intro u hu;simp at hu;subst hu;rfl) (by omega) (by unfold maxLen;omega) z2 ?_)
  intro v' w1 o3 b3
  have R:w1.ownsRow w.heap.size 5 1 v' (pre4 n 2).length (bcells (pre4 n 2)):=by
   rw[show pre4 n 2=L++[46] by rw[←HL.out];simp[pre4],bcells_snoc,List.length_append]
   exact o3
  have B3:=B2.trans b3
  clear o2 o3 b3 B2
  go_wp2_with fail
  go_roundw
  case rel=>exact ⟨2,by omega,rfl,fun _=>R,fun h=>by omega,B3⟩
  case measure=>simp[intOf]
 ·have HI:Hid (∀(v:Value) (W:World),W.ownsRow w.heap.size 5 1 v (pre4 n 2).length (bcells (pre4 n 2))→w.heap.size≤W.heap.size→Lib.TabBelow Tryz.prog w.heap.size W "internal/strconv.uint64pow10" .u64 Lib.pow10Tab→Calls Tryz.prog 81 #[v,.int .i64 (n/256%256),.int .i64 10] W fun e w'=> ∃v',e=.returned v'∧w'.ownsRow w.heap.size 5 1 v' (pre4 n 2++dec3 (n/256%256).toNat).length (bcells (pre4 n 2++dec3 (n/256%256).toNat))∧Below w.heap.size W w'):=fun v W ho hB hT=>implAppDec w.heap.size _ v _ W (by omega) (by omega) ho hB (by have:=pre4_len n 2;omega) hT
  have o1:=hin (by omega)
  have hl:=pre4_len n 2
  have hl2:=dec3_len (n/256%256).toNat
  clear hin hend
  simp only[room4]
  go_wp2_with fail
  refine (HI.out _ _ o1 hsz HTW.out).mono ?_
  rintro e wb ⟨vb,rfl,o2,b2⟩
  have B2:=hbel.trans b2
  have z2:=B2.size
  have hl3:(pre4 n 2++dec3 (n/256%256).toNat).length≤200:=by rw[List.length_append];omega
  clear o1 hbel b2 HTW HI
  obtain ⟨L,hL⟩: ∃L,pre4 n 2++dec3 (n/256%256).toNat=L:=⟨_,rfl⟩
  rw[hL]at o2 hl3
  have HL:Hid (pre4 n 2++dec3 (n/256%256).toNat=L):=hL
  clear hL
  go_wp2_with (at_builtin;refine wpList_append_new _ rfl _ _ 22 rfl w.heap.size 5 (.int .u8 0) 1 Tryz.underlying22 Tryz.info5 rfl _ _ _ rfl o2 #[.int .u8 46] 1 rfl rfl (by intro u hu;simp at hu;subst hu;rfl) (by omega) (by unfold maxLen;omega) z2 ?_)
  intro v' w1 o3 b3
  have R:w1.ownsRow w.heap.size 5 1 v' (pre4 n 3).length (bcells (pre4 n 3)):=by
   rw[show pre4 n 3=L++[46] by rw[←HL.out];simp[pre4],bcells_snoc,List.length_append]
   exact o3
  have B3:=B2.trans b3
  clear o2 o3 b3 B2
  go_wp2_with fail
  go_roundw
  case rel=>exact ⟨3,by omega,rfl,fun _=>R,fun h=>by omega,B3⟩
  case measure=>simp[intOf]
 ·have HI:Hid (∀(v:Value) (W:World),W.ownsRow w.heap.size 5 1 v (pre4 n 3).length (bcells (pre4 n 3))→w.heap.size≤W.heap.size→Lib.TabBelow Tryz.prog w.heap.size W "internal/strconv.uint64pow10" .u64 Lib.pow10Tab→Calls Tryz.prog 81 #[v,.int .i64 (n%256),.int .i64 10] W fun e w'=> ∃v',e=.returned v'∧w'.ownsRow w.heap.size 5 1 v' (pre4 n 3++dec3 (n%256).toNat).length (bcells (pre4 n 3++dec3 (n%256).toNat))∧Below w.heap.size W w'):=fun v W ho hB hT=>implAppDec w.heap.size _ v _ W (by omega) (by omega) ho hB (by have:=pre4_len n 3;omega) hT
  have o1:=hin (by omega)
  clear hin hend
  simp only[room4]
  go_wp2_with fail
  refine (HI.out _ _ o1 hsz HTW.out).mono ?_
  rintro e wb ⟨vb,rfl,o2,b2⟩
  have B2:=hbel.trans b2
  clear o1 hbel b2 HTW HI
  go_wp2_with fail
  go_roundw
  case rel=>exact ⟨4,by omega,rfl,fun h=>by omega,fun _=>o2,B2⟩
  case measure=>simp[intOf]
 have o1:=hend rfl
 clear hin hend
 have hcv:=run_string_own (P:=Tryz.prog) wr 22 9 5 Tryz.underlying22 Tryz.underlying5 Tryz.underlying9 o1
 rw[pre4_end h0]at hcv
 simp only[room4]
 go_wp2_with fail
 go_ret
 exact ⟨rfl,hbel⟩
theorem implIp4Text_no(n:Int)(w:World)(h:n<0∨4294967295<n):
  Calls Tryz.prog 50 #[.int .i64 n] w fun e w'=>e=.returned (.string ⟨#[]⟩)∧Below w.heap.size w w':=by
 by_cases h0:n<0
 ·clear h
  go_enter Tryz.func50,Tryz.ntmps50
  go_wp2_with fail
  go_ret
  exact ⟨rfl,Below.refl _ _⟩
 have h1:4294967296≤n:=by omega
 clear h
 go_enter Tryz.func50,Tryz.ntmps50
 go_wp2_with fail
 go_ret
 exact ⟨rfl,Below.refl _ _⟩

end Go.Proofs.YtijliddchoehhaaGreatDoor
namespace Go.Proofs.YtijliddchoehhaaGreatDoor
open Go.ChangeShapes Go.WideShapes Go.ChangeAt Go.RowKit Go.Lib
theorem ownPow:ownKnob Tryz.prog.godebug=none:=by kernel_rfl
theorem laidOutPow:laidOutB Tryz.prog=true:=by kernel_rfl
theorem pow_data:(Rows.laid_internal_strconv_uint64pow10:DataW Unit)=Lib.tabData .u64 Lib.pow10Tab:=by kernel_rfl
def litCells(d:DataW Unit):Array Value:=match d with
 | .agg ds=>(ds.map fun x=>match x with
  | .lit (.int k n)=>Value.int k n
  |_=>Value.int .i64 0).toArray
 |_=> #[]
def putRow5(cs:Array Value):Obj→Obj
 | .cells _ t frozen=> .cells cs t frozen
 |o=>o
def powHeap(h:Array Obj):Array Obj:=
 ((h.modify 4 (putRow5 (litCells Rows.laid_math_bits_deBruijn32tab))).modify 5 (putRow5 (litCells Rows.laid_math_bits_deBruijn64tab))).modify 1 (putRow5 (litCells Rows.laid_internal_strconv_uint64pow10))
end Go.Proofs.YtijliddchoehhaaGreatDoor
namespace Go.Proofs.YtijliddchoehhaaGreatDoor
open Go.RowKit
def hxU(i:Nat):UInt8:=UInt8.ofNat (if i<10 then 48+i else 87+i)
def hex4(n:Nat):List UInt8:=if n<16 then [hxU n]else if n<256 then [hxU (n/16),hxU (n%16)]else if n<4096 then [hxU (n/256),hxU (n/16%16),hxU (n%16)]else [hxU (n/4096),hxU (n/256%16),hxU (n/16%16),hxU (n%16)]
theorem hxU_hex: ∀i,i<16→hexN (hxU i).toNat=(i:Int):=by decide+kernel
theorem hxU_no: ∀i,i<16→hxU i≠58∧hxU i≠46:=by decide+kernel
theorem digF_hx{i n:Nat}(h:i<16)(r:List UInt8):digF 16 n (hxU i::r)=digF 16 (n*16+i) r:=by
 rw[digF,hxU_hex i h,if_pos (by omega)]
 rfl
theorem hex4_num{n:Nat}(h:n<65536):numL 16 4 (hex4 n)=some n:=by
 unfold hex4 numL
 split
 ·rw[if_pos (by simp),digF_hx (by omega),digF]
  congr 1
  omega
 split
 ·rw[if_pos (by simp),digF_hx (by omega),digF_hx (by omega),digF]
  congr 1
  omega
 split
 ·rw[if_pos (by simp),digF_hx (by omega),digF_hx (by omega),digF_hx (by omega),digF]
  congr 1
  omega
 rw[if_pos (by simp),digF_hx (by omega),digF_hx (by omega),digF_hx (by omega),digF_hx (by omega),digF]
 congr 1
 omega
theorem hex4_no{n:Nat}(h:n<65536): ∀c∈hex4 n,c≠58∧c≠46:=by
 intro c hc
 unfold hex4 at hc
 split at hc
 ·simp only[List.mem_cons,List.not_mem_nil,or_false]at hc
  subst hc
  exact hxU_no _ (by omega)
 split at hc
 ·simp only[List.mem_cons,List.not_mem_nil,or_false]at hc
  rcases hc with rfl|rfl<;>exact hxU_no _ (by omega)
 split at hc
 ·simp only[List.mem_cons,List.not_mem_nil,or_false]at hc
  rcases hc with rfl|rfl|rfl<;>exact hxU_no _ (by omega)
 simp only[List.mem_cons,List.not_mem_nil,or_false]at hc
 rcases hc with rfl|rfl|rfl|rfl<;>exact hxU_no _ (by omega)
theorem hex4_len(n:Nat):1≤(hex4 n).length∧(hex4 n).length≤4:=by
 unfold hex4
 split
 ·simp
 split
 ·simp
 split<;>simp
theorem hex4_ne(n:Nat):(hex4 n).isEmpty=false:=by
 have:=(hex4_len n).1
 cases h:hex4 n with
 |nil=>rw[h]at this;simp at this
 |cons _ _=>rfl
theorem hex4_nil(n:Nat):hex4 n≠[]:=by
 intro e
 have h:=hex4_ne n
 rw[e]at h
 cases h
def cut6L:List UInt8→Option (List UInt8×List UInt8)
 |[]=>none
 |c::r=>if c=58∧r.head? =some 58 then some ([],r.tail)else (cut6L r).map fun p=>(c::p.1,p.2)
theorem cutL_no: ∀{l:List UInt8},(∀c∈l,c≠58)→cut6L l=none
 |[],_=>rfl
 |c::r,h=>by
  rw[cut6L,if_neg (fun e=>h c List.mem_cons_self e.1),cutL_no (fun d hd=>h d (List.mem_cons_of_mem _ hd))]
  rfl
theorem cutL_pre(y:List UInt8): ∀{p:List UInt8},(∀c∈p,c≠58)→cut6L (p++y)=(cut6L y).map fun q=>(p++q.1,q.2)
 |[],_=>by
  rw[List.nil_append]
  cases cut6L y<;>rfl
 |c::r,h=>by
  rw[List.cons_append,cut6L,if_neg (fun e=>h c List.mem_cons_self e.1),cutL_pre y (fun d hd=>h d (List.mem_cons_of_mem _ hd))]
  cases cut6L y<;>rfl
def partOk(x:List UInt8):Prop:=x≠[]∧ ∀c∈x,c≠58
theorem jl_head{b:UInt8}{x:List UInt8}{r:List (List UInt8)}(hx:partOk x):(jl b (x::r)).head? ≠some 58:=by
 obtain ⟨h1,h2⟩:=hx
 cases x with
 |nil=>exact absurd rfl h1
 |cons c q=>
  have hc:=h2 c List.mem_cons_self
  cases r<;>simp[jl,hc]
theorem cut_jl: ∀{fs:List (List UInt8)},(∀x∈fs,partOk x)→cut6L (jl 58 fs)=none
 |[],_=>rfl
 |[x],h=>cutL_no (h x List.mem_cons_self).2
 |x::y::r,h=>by
  have ih:=cut_jl (fs:=y::r) fun z hz=>h z (List.mem_cons_of_mem _ hz)
  rw[jl,cutL_pre _ (h x List.mem_cons_self).2,cut6L,if_neg (fun e=>jl_head (h y (by simp)) e.2),ih]
  rfl
theorem cut_text(B:List UInt8): ∀{fs:List (List UInt8)},(∀x∈fs,partOk x)→cut6L (jl 58 fs++58::58::B)=some (jl 58 fs,B)
 |[],_=>by simp[jl,cut6L]
 |[x],h=>by
  rw[jl,cutL_pre _ (h x List.mem_cons_self).2,cut6L,if_pos (by simp)]
  simp
 |x::y::r,h=>by
  have ih:=cut_text B (fs:=y::r) fun z hz=>h z (List.mem_cons_of_mem _ hz)
  have hh:=jl_head (b:=58) (r:=r) (h y (by simp))
  rw[jl,List.append_assoc,cutL_pre _ (h x List.mem_cons_self).2,List.cons_append,cut6L,if_neg ?_,ih]
  ·rfl
  intro e
  apply hh
  cases hj:jl 58 (y::r)with
  |nil=>
   have h1:=h y (by simp)
   cases r<;>simp[jl]at hj
   exact absurd hj h1.1
  |cons c q=>
   rw[hj]at e
   simpa using e.2
def g16(x:List UInt8):Option Nat:=if x.isEmpty then none else numL 16 4 x
def grp(t:Bool):List (List UInt8)→Option (List Nat)
 |[]=>some []
 |x::r=>match (if t&&r.isEmpty then p4 x else none)with
  |some n=>some [n/65536,n%65536]
  |none=>match g16 x with
   |none=>none
   |some v=>(grp t r).map (v:: ·)
def grpS(t:Bool)(l:List UInt8):Option (List Nat):=if l.isEmpty then some []else grp t (spl 58 l)
def fill8(a b:List Nat):List Nat:=a++List.replicate (8-a.length-b.length) 0++b
def par6(l:List UInt8):Option (List Nat):=match cut6L l with
 |none=>match grpS true l with
  |none=>none
  |some g=>if g.length=8 then some g else none
 |some (a,b)=>match grpS false a,grpS true b with
  |some x,some y=>if x.length+y.length≤7 then some (fill8 x y)else none
  |_,_=>none
theorem g16_hex{n:Nat}(h:n<65536):g16 (hex4 n)=some n:=by
 unfold g16
 rw[hex4_ne,hex4_num h]
 rfl
def gtL(gs:List Nat):List UInt8:=jl 58 (gs.map hex4)
theorem gt_parts{gs:List Nat}(h: ∀g∈gs,g<65536): ∀x∈gs.map hex4,partOk x:=by
 intro x hx
 obtain ⟨g,hg,rfl⟩:=List.mem_map.1 hx
 exact ⟨hex4_nil _,fun c hc=>(hex4_no (h g hg) c hc).1⟩
theorem gt_grp(t:Bool): ∀{gs:List Nat},(∀g∈gs,g<65536)→grp t (gs.map hex4)=some gs
 |[],_=>by cases t<;>rfl
 |g::r,h=>by
  have hg:=h g List.mem_cons_self
  have h4:p4 (hex4 g)=none:=by
   unfold p4
   rw[spl_none 46 (fun c hc=>(hex4_no hg c hc).2),if_neg (by simp)]
  rw[List.map_cons,grp,h4,gt_grp t (fun x hx=>h x (List.mem_cons_of_mem _ hx)),g16_hex hg]
  simp
theorem gt_nil{gs:List Nat}:(gtL gs).isEmpty=gs.isEmpty:=by
 match gs with
 |[]=>rfl
 |[g]=>simpa[gtL,jl] using hex4_ne g
 |g::h::r=>
  unfold gtL
  rw[List.map_cons,List.map_cons,jl]
  cases hex4 g<;>rfl
theorem gt_grpS(t:Bool){gs:List Nat}(h: ∀g∈gs,g<65536):grpS t (gtL gs)=some gs:=by
 unfold grpS
 rw[gt_nil]
 cases gs with
 |nil=>rfl
 |cons g r=>
  simp only[List.isEmpty_cons,Bool.false_eq_true,if_false]
  unfold gtL
  rw[spl_jl 58 (by simp) (fun x hx=>(gt_parts h x hx).2),gt_grp t h]
def ip6T(w:List Nat)(f e:Nat):List UInt8:=if e-f<2 then gtL w else gtL (w.take f)++58::58::gtL (w.drop e)
theorem par6_gt{w:List Nat}(hl:w.length=8)(h: ∀g∈w,g<65536):par6 (gtL w)=some w:=by
 unfold par6
 rw[show cut6L (gtL w)=none from cut_jl (gt_parts h)]
 simp only
 rw[gt_grpS true h]
 simp only[hl,if_true]
theorem par6_text{w:List Nat}{f e:Nat}(hl:w.length=8)(h: ∀g∈w,g<65536)(he:e≤8)(hz: ∀i,f≤i→i<e→w.getD i 0=0):par6 (ip6T w f e)=some w:=by
 unfold ip6T
 split
 ·exact par6_gt hl h
 have h1: ∀g∈w.take f,g<65536:=fun g hg=>h g (List.mem_of_mem_take hg)
 have h2: ∀g∈w.drop e,g<65536:=fun g hg=>h g (List.mem_of_mem_drop hg)
 unfold par6
 rw[show cut6L (gtL (w.take f)++58::58::gtL (w.drop e))=some (gtL (w.take f),gtL (w.drop e)) from cut_text _ (gt_parts h1)]
 simp only
 rw[gt_grpS false h1,gt_grpS true h2]
 simp only[List.length_take,List.length_drop]
 rw[if_pos (by omega)]
 congr 1
 unfold fill8
 apply List.ext_getElem
 ·simp;omega
 intro i i1 i2
 simp only[List.length_append,List.length_take,List.length_replicate,List.length_drop]at i1
 by_cases c1:i<f
 ·rw[List.getElem_append_left (by simp;omega),List.getElem_append_left (by simp;omega),List.getElem_take]
 by_cases c2:i<e
 ·rw[List.getElem_append_left (by simp;omega),List.getElem_append_right (by simp;omega),List.getElem_replicate]
  have:=hz i (by omega) c2
  rw[List.getD_eq_getElem?_getD,List.getElem?_eq_getElem (by omega)]at this
  exact this.symm
 rw[List.getElem_append_right (by simp;omega),List.getElem_drop]
 congr 1
 simp
 omega
theorem gt_len: ∀gs:List Nat,(gtL gs).length≤5*gs.length-1∧gs.length≤(gtL gs).length
 |[]=>by simp[gtL,jl]
 |[g]=>by have:=hex4_len g;simp[gtL,jl];omega
 |g::h::r=>by
  have ih:=gt_len (h::r)
  have hg:=hex4_len g
  unfold gtL at ih⊢
  rw[List.map_cons,List.map_cons,jl,List.length_append,List.length_cons]
  rw[List.map_cons]at ih
  simp only[List.length_cons]at ih⊢
  omega
theorem ip6_len{w:List Nat}{f e:Nat}(hl:w.length=8)(he:e≤8):2≤(ip6T w f e).length∧(ip6T w f e).length≤39:=by
 unfold ip6T
 have g1:=gt_len w
 have g2:=gt_len (w.take f)
 have g3:=gt_len (w.drop e)
 split
 ·omega
 simp only[List.length_append,List.length_cons,List.length_take,List.length_drop]at g2 g3⊢
 omega
def rowI:Nat→Nat×Nat×Nat→List Bool→Nat×Nat×Nat
 |_,s,[]=>s
 |i,(f,t,b),z::r=>rowI (i+1) (if z then (if t-f<i+1-b then (b,i+1,b)else (f,t,b))else (f,t,i+1)) r
def runZ:List Bool→Nat
 |true::r=>runZ r+1
 |_=>0
def rowS:Nat→Nat×Nat→List Bool→Nat×Nat
 |_,s,[]=>s
 |a,(f,t),z::r=>rowS (a+1) (if 1<runZ (z::r)∧t-f<runZ (z::r)then (a,a+runZ (z::r))else (f,t)) r
def rowOkB(z:List Bool):Bool:=
 let p:=rowI 0 (0,0,0) z
 let q:=rowS 0 (8,8) z
 decide (p.1≤p.2.1)&&decide (p.2.1≤8)&&(if p.2.1-p.1<2 then decide (q=(8,8))else decide (q=(p.1,p.2.1))&&(List.range 8).all fun i=> !(decide (p.1≤i)&&decide (i<p.2.1))||z.getD i false)
theorem rows_ok: ∀a b c d e f g h:Bool,rowOkB [a,b,c,d,e,f,g,h]=true:=by decide+kernel
end Go.Proofs.YtijliddchoehhaaGreatDoor
namespace Go.Proofs.YtijliddchoehhaaGreatDoor
open Go.RowKit
set_option linter.unusedSimpArgs false
def Bruijn(w:World):Prop:=w.cell? ⟨5,15,none⟩=some (.int .u8 4)
theorem implPow2(w:World):Calls Tryz.prog 152 #[.int .i64 16] w fun e w'=>e=.returned (.bool true)∧w=w':=by
 go_enter Tryz.func152,Tryz.ntmps152
 go_wp2
 go_ret
 exact ⟨rfl,rfl⟩
theorem implTz64(w:World)(h:Bruijn w):Calls Tryz.prog 164 #[.int .u64 16] w fun e w'=>e=.returned (.int .i64 4)∧w=w':=by
 unfold Bruijn at h
 have e1:bits .and .u64 16 (IntKind.u64.wrap (-16))=16:=by kernel_rfl
 have e2:IntKind.u64.wrap (16*285870213051353865)=4573923408821661840:=by kernel_rfl
 have e3:IntKind.u64.wrap 4573923408821661840=4573923408821661840:=by kernel_rfl
 have e4:(4573923408821661840:Int)/288230376151711744=15:=by decide
 go_enter Tryz.func164,Tryz.ntmps164
 go_wp2
 go_ret
 exact ⟨rfl,rfl⟩
theorem implTz(w:World)(h:Bruijn w):Calls Tryz.prog 153 #[.int .u64 16] w fun e w'=>e=.returned (.int .i64 4)∧w=w':=by
 have H:Hid (Bruijn w):=h
 clear h
 go_enter Tryz.func153,Tryz.ntmps153
 go_wp2_with fail
 refine (implTz64 _ H.out).mono ?_
 rintro e w' ⟨rfl,rfl⟩
 go_wp2_with fail
 go_ret
 exact ⟨rfl,rfl⟩
theorem bruijn_below{w w':World}(h:Bruijn w)(hb:Below w.heap.size w w'):Bruijn w':=cell_later hb h
theorem dig36: ∀k,k<16→((#[48,49,50,51,52,53,54,55,56,57,97,98,99,100,101,102,103,104,105,106,107,108,109,110,111,112,113,114,115,116,117,118,119,120,121,122]:Array UInt8).getD k 0)=hxU k:=by decide+kernel
theorem hex36_at(k:Nat)(h:k<16)(hp:k<(⟨#[48,49,50,51,52,53,54,55,56,57,97,98,99,100,101,102,103,104,105,106,107,108,109,110,111,112,113,114,115,116,117,118,119,120,121,122]⟩:ByteArray).size):
  (⟨#[48,49,50,51,52,53,54,55,56,57,97,98,99,100,101,102,103,104,105,106,107,108,109,110,111,112,113,114,115,116,117,118,119,120,121,122]⟩:ByteArray)[k]'hp=hxU k:=by
 rw[←dig36 k h]
 rw[Array.getD_eq_getD_getElem?,Array.getElem?_eq_getElem hp]
 rfl
theorem zero65:Tryz.zeroCells167.size=65:=by kernel_rfl
theorem u64_wrap_small(n:Int)(h0:0≤n)(h1:n<18446744073709551616):IntKind.u64.wrap n=n:=by
 simp[IntKind.wrap,IntKind.bits,IntKind.signed];omega
theorem u64_and15(x:Int)(h0:0≤x)(h1:x<18446744073709551616):bits .and .u64 x 15=x%16:=by
 obtain ⟨a,rfl⟩:=Int.eq_ofNat_of_zero_le h0
 have ha:(BitVec.ofInt 64 (a:Int)).toNat=a:=by
  rw[BitVec.ofInt_natCast,BitVec.toNat_ofNat];exact Nat.mod_eq_of_lt (by omega)
 have hb:(BitVec.ofInt 64 (15:Int)).toNat=15:=by decide
 show IntKind.u64.wrap ((BitVec.ofInt 64 (a:Int)&&&BitVec.ofInt 64 (15:Int)).toNat:Int)=_
 rw[BitVec.toNat_and,ha,hb,show (15:Nat)=2^4-1 from rfl,Nat.and_two_pow_sub_one_eq_mod,u64_wrap_small _ (by omega) (by omega)]
 omega
theorem tail_at{w:World}{cs:Array Value}{T:TypeId}{o:Nat}{l:List UInt8}(h: ∀j (hj:j<l.length),cs[o+j]? =some (.int .u8 (l[j].toNat:Int))):
  ∀(j:Nat) (x:Value),(bcells l)[j]? =some x→(w.alloc (.cells cs T)).cell? ((⟨w.heap.size,o,none⟩:Addr).add j)=some x:=by
 intro j x hj
 rw[Addr.add_lit,World.cell?_alloc_at _ _ _ _ rfl]
 unfold bcells at hj
 rw[List.getElem?_map]at hj
 obtain ⟨c,hc,rfl⟩:=Option.map_eq_some_iff.1 hj
 obtain ⟨hl,rfl⟩:=List.getElem?_eq_some_iff.1 hc
 exact h j hl
theorem implFormat1(u:Int)(B:Nat)(v:Value)(l:List UInt8)(w:World)(h0:0≤u)(h1:u<16)(hT:Bruijn w)(hown:w.ownsRow B 5 1 v l.length (bcells l))(hB:B≤w.heap.size)(hl:l.length≤1000):
  Calls Tryz.prog 134 #[v,.int .u64 u,.int .i64 16,.bool false,.bool true] w fun e w'=> ∃v',e=.returned (.tuple #[v',.string ⟨#[]⟩])∧w'.ownsRow B 5 1 v' (l++hex4 u.toNat).length (bcells (l++hex4 u.toNat))∧Below B w w':=by
 have HH:Hid (hex4 u.toNat=[hxU u.toNat]):=by show _=_;unfold hex4;rw[if_pos (by omega)]
 obtain ⟨i0,hi,hz0,hz1,hz2⟩:=info_parts Tryz.info5
 have HT:Hid (Bruijn w):=hT
 clear hT
 have HO:Hid (w.ownsRow B 5 1 v l.length (bcells l)):=hown
 clear hown
 go_enter Tryz.func134,Tryz.ntmps134
 go_wp2_with fail
 refine (implPow2 _).mono ?_
 rintro e w' ⟨rfl,rfl⟩
 go_wp2_with fail
 refine (implTz _ (bruijn_below HT.out ((Below.refl _ _).alloc (Nat.le_refl _) _))).mono ?_
 rintro e w' ⟨rfl,rfl⟩
 go_wp2_with fail
 refine wp_loop_rounds 1 ?_
 rw[rounds_succ]
 go_wp2_with (at_builtin;refine wpList_append_own _ rfl _ _ 22 rfl B 5 i0 (.int .u8 0) 1 1 Tryz.underlying22 hi hz0 hz1 hz2 rfl (by decide) _ _ _ rfl (HO.out.alloc _) ⟨w.heap.size,64,none⟩ 1 1 (bcells (hex4 u.toNat)) rfl (by rw[bcells_length,HH.out];rfl) (tail_at ?_) (bcells_oneCell _) (by unfold maxLen;omega) (by omega) (by simp;omega) ?_)
 ·rw[HH.out]
  intro j hj
  obtain rfl:j=0:=by simpa using hj
  rw[Array.getElem?_setIfInBounds_self_of_lt (by rw[zero65];decide),hex36_at _ (by omega)]
  rfl
 intro v' w1 h2 h3 _
 have B1:Below B w w1:=((Below.refl B w).alloc hB _).grown h3 (by simp;omega) (fun k hk=>(HO.out.lt k hk).1)
 have R:w1.ownsRow B 5 1 v' (l++hex4 u.toNat).length (bcells (l++hex4 u.toNat)):=by
  rw[bcells_append,List.length_append,show (hex4 u.toNat).length=1 by rw[HH.out];rfl]
  exact h2
 clear h2 h3
 go_wp2_with fail
 go_ret2
 exact ⟨_,rfl,R,B1⟩
theorem implFormat2(u:Int)(B:Nat)(v:Value)(l:List UInt8)(w:World)(h0:16≤u)(h1:u<256)(hT:Bruijn w)(hown:w.ownsRow B 5 1 v l.length (bcells l))(hB:B≤w.heap.size)(hl:l.length≤1000):
  Calls Tryz.prog 134 #[v,.int .u64 u,.int .i64 16,.bool false,.bool true] w fun e w'=> ∃v',e=.returned (.tuple #[v',.string ⟨#[]⟩])∧w'.ownsRow B 5 1 v' (l++hex4 u.toNat).length (bcells (l++hex4 u.toNat))∧Below B w w':=by
 obtain ⟨q1,hq1⟩: ∃q1:Int,u/16=q1:=⟨_,rfl⟩
 obtain ⟨r0,hr0⟩: ∃r0:Int,u%16=r0:=⟨_,rfl⟩
 have HH:Hid (hex4 u.toNat=[hxU q1.toNat,hxU r0.toNat]):=by
  show _=_
  unfold hex4
  rw[if_neg (by omega),if_pos (by omega),show u.toNat/16=q1.toNat by omega,show u.toNat%16=r0.toNat by omega]
 have c1:0≤q1:=by omega
 have c2:q1<16:=by omega
 have c3:0≤r0:=by omega
 have c4:r0<16:=by omega
 have b0:bits .and .u64 u 15=r0:=by rw[u64_and15 _ (by omega) (by omega),hr0]
 clear hr0
 obtain ⟨i0,hi,hz0,hz1,hz2⟩:=info_parts Tryz.info5
 have HT:Hid (Bruijn w):=hT
 clear hT
 have HO:Hid (w.ownsRow B 5 1 v l.length (bcells l)):=hown
 clear hown
 go_enter Tryz.func134,Tryz.ntmps134
 go_wp2_with fail
 refine (implPow2 _).mono ?_
 rintro e w' ⟨rfl,rfl⟩
 go_wp2_with fail
 refine (implTz _ (bruijn_below HT.out ((Below.refl _ _).alloc (Nat.le_refl _) _))).mono ?_
 rintro e w' ⟨rfl,rfl⟩
 go_wp2_with fail
 refine wp_loop_rounds 2 ?_
 rw[rounds_succ]
 go_wp2_with fail
 rw[rounds_succ]
 go_wp2_with (at_builtin;refine wpList_append_own _ rfl _ _ 22 rfl B 5 i0 (.int .u8 0) 1 1 Tryz.underlying22 hi hz0 hz1 hz2 rfl (by decide) _ _ _ rfl (HO.out.alloc _) ⟨w.heap.size,63,none⟩ 2 2 (bcells (hex4 u.toNat)) rfl (by rw[bcells_length,HH.out];rfl) (tail_at ?_) (bcells_oneCell _) (by unfold maxLen;omega) (by omega) (by simp;omega) ?_)
 ·rw[HH.out,hex36_at r0.toNat (by omega),hex36_at q1.toNat (by omega)]
  intro j hj
  have h3:j=0∨j=1:=by simp at hj;omega
  rcases h3 with rfl|rfl<;>simp[Array.getElem?_setIfInBounds,zero65]
 intro v' w1 h2 h3 _
 have B1:Below B w w1:=((Below.refl B w).alloc hB _).grown h3 (by simp;omega) (fun k hk=>(HO.out.lt k hk).1)
 have R:w1.ownsRow B 5 1 v' (l++hex4 u.toNat).length (bcells (l++hex4 u.toNat)):=by
  rw[bcells_append,List.length_append,show (hex4 u.toNat).length=2 by rw[HH.out];rfl]
  exact h2
 clear h2 h3
 go_wp2_with fail
 go_ret2
 exact ⟨_,rfl,R,B1⟩
theorem implFormat3(u:Int)(B:Nat)(v:Value)(l:List UInt8)(w:World)(h0:256≤u)(h1:u<4096)(hT:Bruijn w)(hown:w.ownsRow B 5 1 v l.length (bcells l))(hB:B≤w.heap.size)(hl:l.length≤1000):
  Calls Tryz.prog 134 #[v,.int .u64 u,.int .i64 16,.bool false,.bool true] w fun e w'=> ∃v',e=.returned (.tuple #[v',.string ⟨#[]⟩])∧w'.ownsRow B 5 1 v' (l++hex4 u.toNat).length (bcells (l++hex4 u.toNat))∧Below B w w':=by
 obtain ⟨q1,hq1⟩: ∃q1:Int,u/16=q1:=⟨_,rfl⟩
 obtain ⟨r0,hr0⟩: ∃r0:Int,u%16=r0:=⟨_,rfl⟩
 obtain ⟨q2,hq2⟩: ∃q2:Int,q1/16=q2:=⟨_,rfl⟩
 obtain ⟨r1,hr1⟩: ∃r1:Int,q1%16=r1:=⟨_,rfl⟩
 have HH:Hid (hex4 u.toNat=[hxU q2.toNat,hxU r1.toNat,hxU r0.toNat]):=by
  show _=_
  unfold hex4
  rw[if_neg (by omega),if_neg (by omega),if_pos (by omega),show u.toNat/256=q2.toNat by omega,show u.toNat/16%16=r1.toNat by omega,show u.toNat%16=r0.toNat by omega]
 have c1:16≤q1:=by omega
 have c2:q1<256:=by omega
 have c3:0≤r0:=by omega
 have c4:r0<16:=by omega
 have c5:0≤q2:=by omega
 have c6:q2<16:=by omega
 have c7:0≤r1:=by omega
 have c8:r1<16:=by omega
 have b0:bits .and .u64 u 15=r0:=by rw[u64_and15 _ (by omega) (by omega),hr0]
 have b1:bits .and .u64 q1 15=r1:=by rw[u64_and15 _ (by omega) (by omega),hr1]
 clear hr0 hr1
 obtain ⟨i0,hi,hz0,hz1,hz2⟩:=info_parts Tryz.info5
 have HT:Hid (Bruijn w):=hT
 clear hT
 have HO:Hid (w.ownsRow B 5 1 v l.length (bcells l)):=hown
 clear hown
 go_enter Tryz.func134,Tryz.ntmps134
 go_wp2_with fail
 refine (implPow2 _).mono ?_
 rintro e w' ⟨rfl,rfl⟩
 go_wp2_with fail
 refine (implTz _ (bruijn_below HT.out ((Below.refl _ _).alloc (Nat.le_refl _) _))).mono ?_
 rintro e w' ⟨rfl,rfl⟩
 go_wp2_with fail
 refine wp_loop_rounds 3 ?_
 rw[rounds_succ]
 go_wp2_with fail
 rw[rounds_succ]
 go_wp2_with fail
 rw[rounds_succ]
 go_wp2_with (at_builtin;refine wpList_append_own _ rfl _ _ 22 rfl B 5 i0 (.int .u8 0) 1 1 Tryz.underlying22 hi hz0 hz1 hz2 rfl (by decide) _ _ _ rfl (HO.out.alloc _) ⟨w.heap.size,62,none⟩ 3 3 (bcells (hex4 u.toNat)) rfl (by rw[bcells_length,HH.out];rfl) (tail_at ?_) (bcells_oneCell _) (by unfold maxLen;omega) (by omega) (by simp;omega) ?_)
 ·rw[HH.out,hex36_at r0.toNat (by omega),hex36_at r1.toNat (by omega),hex36_at q2.toNat (by omega)]
  intro j hj
  have h3:j=0∨j=1∨j=2:=by simp at hj;omega
  rcases h3 with rfl|rfl|rfl<;>simp[Array.getElem?_setIfInBounds,zero65]
 intro v' w1 h2 h3 _
 have B1:Below B w w1:=((Below.refl B w).alloc hB _).grown h3 (by simp;omega) (fun k hk=>(HO.out.lt k hk).1)
 have R:w1.ownsRow B 5 1 v' (l++hex4 u.toNat).length (bcells (l++hex4 u.toNat)):=by
  rw[bcells_append,List.length_append,show (hex4 u.toNat).length=3 by rw[HH.out];rfl]
  exact h2
 clear h2 h3
 go_wp2_with fail
 go_ret2
 exact ⟨_,rfl,R,B1⟩
theorem implFormat4(u:Int)(B:Nat)(v:Value)(l:List UInt8)(w:World)(h0:4096≤u)(h1:u<65536)(hT:Bruijn w)(hown:w.ownsRow B 5 1 v l.length (bcells l))(hB:B≤w.heap.size)(hl:l.length≤1000):
  Calls Tryz.prog 134 #[v,.int .u64 u,.int .i64 16,.bool false,.bool true] w fun e w'=> ∃v',e=.returned (.tuple #[v',.string ⟨#[]⟩])∧w'.ownsRow B 5 1 v' (l++hex4 u.toNat).length (bcells (l++hex4 u.toNat))∧Below B w w':=by
 obtain ⟨q1,hq1⟩: ∃q1:Int,u/16=q1:=⟨_,rfl⟩
 obtain ⟨r0,hr0⟩: ∃r0:Int,u%16=r0:=⟨_,rfl⟩
 obtain ⟨q2,hq2⟩: ∃q2:Int,q1/16=q2:=⟨_,rfl⟩
 obtain ⟨r1,hr1⟩: ∃r1:Int,q1%16=r1:=⟨_,rfl⟩
 obtain ⟨q3,hq3⟩: ∃q3:Int,q2/16=q3:=⟨_,rfl⟩
 obtain ⟨r2,hr2⟩: ∃r2:Int,q2%16=r2:=⟨_,rfl⟩
 have HH:Hid (hex4 u.toNat=[hxU q3.toNat,hxU r2.toNat,hxU r1.toNat,hxU r0.toNat]):=by
  show _=_
  unfold hex4
  rw[if_neg (by omega),if_neg (by omega),if_neg (by omega),show u.toNat/4096=q3.toNat by omega,show u.toNat/256%16=r2.toNat by omega,show u.toNat/16%16=r1.toNat by omega,show u.toNat%16=r0.toNat by omega]
 have c1:256≤q1:=by omega
 have c2:q1<4096:=by omega
 have c3:0≤r0:=by omega
 have c4:r0<16:=by omega
 have c5:16≤q2:=by omega
 have c6:q2<256:=by omega
 have c7:0≤r1:=by omega
 have c8:r1<16:=by omega
 have d5:0≤q3:=by omega
 have d6:q3<16:=by omega
 have d7:0≤r2:=by omega
 have d8:r2<16:=by omega
 have b0:bits .and .u64 u 15=r0:=by rw[u64_and15 _ (by omega) (by omega),hr0]
 have b1:bits .and .u64 q1 15=r1:=by rw[u64_and15 _ (by omega) (by omega),hr1]
 have b2:bits .and .u64 q2 15=r2:=by rw[u64_and15 _ (by omega) (by omega),hr2]
 clear hr0 hr1 hr2
 obtain ⟨i0,hi,hz0,hz1,hz2⟩:=info_parts Tryz.info5
 have HT:Hid (Bruijn w):=hT
 clear hT
 have HO:Hid (w.ownsRow B 5 1 v l.length (bcells l)):=hown
 clear hown
 go_enter Tryz.func134,Tryz.ntmps134
 go_wp2_with fail
 refine (implPow2 _).mono ?_
 rintro e w' ⟨rfl,rfl⟩
 go_wp2_with fail
 refine (implTz _ (bruijn_below HT.out ((Below.refl _ _).alloc (Nat.le_refl _) _))).mono ?_
 rintro e w' ⟨rfl,rfl⟩
 go_wp2_with fail
 refine wp_loop_rounds 4 ?_
 rw[rounds_succ]
 go_wp2_with fail
 rw[rounds_succ]
 go_wp2_with fail
 rw[rounds_succ]
 go_wp2_with fail
 rw[rounds_succ]
 go_wp2_with (at_builtin;refine wpList_append_own _ rfl _ _ 22 rfl B 5 i0 (.int .u8 0) 1 1 Tryz.underlying22 hi hz0 hz1 hz2 rfl (by decide) _ _ _ rfl (HO.out.alloc _) ⟨w.heap.size,61,none⟩ 4 4 (bcells (hex4 u.toNat)) rfl (by rw[bcells_length,HH.out];rfl) (tail_at ?_) (bcells_oneCell _) (by unfold maxLen;omega) (by omega) (by simp;omega) ?_)
 ·rw[HH.out,hex36_at r0.toNat (by omega),hex36_at r1.toNat (by omega),hex36_at r2.toNat (by omega),hex36_at q3.toNat (by omega)]
  intro j hj
  have h3:j=0∨j=1∨j=2∨j=3:=by simp at hj;omega
  rcases h3 with rfl|rfl|rfl|rfl<;>simp[Array.getElem?_setIfInBounds,zero65]
 intro v' w1 h2 h3 _
 have B1:Below B w w1:=((Below.refl B w).alloc hB _).grown h3 (by simp;omega) (fun k hk=>(HO.out.lt k hk).1)
 have R:w1.ownsRow B 5 1 v' (l++hex4 u.toNat).length (bcells (l++hex4 u.toNat)):=by
  rw[bcells_append,List.length_append,show (hex4 u.toNat).length=4 by rw[HH.out];rfl]
  exact h2
 clear h2 h3
 go_wp2_with fail
 go_ret2
 exact ⟨_,rfl,R,B1⟩
theorem implFormat(u:Int)(B:Nat)(v:Value)(l:List UInt8)(w:World)(h0:0≤u)(h1:u<65536)(hT:Bruijn w)(hown:w.ownsRow B 5 1 v l.length (bcells l))(hB:B≤w.heap.size)(hl:l.length≤1000):
  Calls Tryz.prog 134 #[v,.int .u64 u,.int .i64 16,.bool false,.bool true] w fun e w'=> ∃v',e=.returned (.tuple #[v',.string ⟨#[]⟩])∧w'.ownsRow B 5 1 v' (l++hex4 u.toNat).length (bcells (l++hex4 u.toNat))∧Below B w w':=by
 by_cases c1:u<16
 ·exact implFormat1 u B v l w h0 c1 hT hown hB hl
 by_cases c2:u<256
 ·exact implFormat2 u B v l w (by omega) c2 hT hown hB hl
 by_cases c3:u<4096
 ·exact implFormat3 u B v l w (by omega) c3 hT hown hB hl
 exact implFormat4 u B v l w (by omega) h1 hT hown hB hl
theorem implAppHex(u:Int)(B:Nat)(v:Value)(l:List UInt8)(w:World)(h0:0≤u)(h1:u<65536)(hT:Bruijn w)(hown:w.ownsRow B 5 1 v l.length (bcells l))(hB:B≤w.heap.size)(hl:l.length≤1000):
  Calls Tryz.prog 81 #[v,.int .i64 u,.int .i64 16] w fun e w'=> ∃v',e=.returned v'∧w'.ownsRow B 5 1 v' (l++hex4 u.toNat).length (bcells (l++hex4 u.toNat))∧Below B w w':=by
 have CF:Hid (∀W,W=w→Calls Tryz.prog 134 #[v,.int .u64 u,.int .i64 16,.bool false,.bool true] W fun e w'=> ∃v',e=.returned (.tuple #[v',.string ⟨#[]⟩])∧w'.ownsRow B 5 1 v' (l++hex4 u.toNat).length (bcells (l++hex4 u.toNat))∧Below B w w'):=fun W h=>by subst h;exact implFormat u B v l _ h0 h1 hT hown hB hl
 clear hT hown
 have CU:Calls Tryz.prog 119 #[v,.int .u64 u,.int .i64 16] w fun e w'=> ∃v',e=.returned v'∧w'.ownsRow B 5 1 v' (l++hex4 u.toNat).length (bcells (l++hex4 u.toNat))∧Below B w w':=by
  go_enter Tryz.func119,Tryz.ntmps119
  go_wp2_with fail
  refine (CF.out _ rfl).mono ?_
  rintro e w' ⟨v',rfl,h2,h3⟩
  go_wp2_with fail
  go_ret
  exact ⟨_,rfl,h2,h3⟩
 have CU:Hid (Calls Tryz.prog 119 #[v,.int .u64 u,.int .i64 16] w fun e w'=> ∃v',e=.returned v'∧w'.ownsRow B 5 1 v' (l++hex4 u.toNat).length (bcells (l++hex4 u.toNat))∧Below B w w'):=CU
 clear CF
 have CI:Calls Tryz.prog 103 #[v,.int .i64 u,.int .i64 16] w fun e w'=> ∃v',e=.returned v'∧w'.ownsRow B 5 1 v' (l++hex4 u.toNat).length (bcells (l++hex4 u.toNat))∧Below B w w':=by
  go_enter Tryz.func103,Tryz.ntmps103
  go_wp2_with fail
  refine CU.out.mono ?_
  rintro e w' ⟨v',rfl,h2,h3⟩
  go_wp2_with fail
  go_ret
  exact ⟨_,rfl,h2,h3⟩
 have CI:Hid (Calls Tryz.prog 103 #[v,.int .i64 u,.int .i64 16] w fun e w'=> ∃v',e=.returned v'∧w'.ownsRow B 5 1 v' (l++hex4 u.toNat).length (bcells (l++hex4 u.toNat))∧Below B w w'):=CI
 clear CU
 go_enter Tryz.func81,Tryz.ntmps81
 go_wp2_with fail
 refine CI.out.mono ?_
 rintro e w' ⟨v',rfl,h2,h3⟩
 go_wp2_with fail
 go_ret
 exact ⟨_,rfl,h2,h3⟩
end Go.Proofs.YtijliddchoehhaaGreatDoor
