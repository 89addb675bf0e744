/- DelImpl, NumWalk. -/
import Derived.Test.YtfdgehlobbeomaaGreatDoorQM07
import Derived.Lib.SliceRun
set_option maxHeartbeats 2000000
set_option maxRecDepth 100000
namespace Go.Proofs.YtfdgehlobbeomaaGreatDoor
open Go.RowKit
set_option linter.unusedVariables false
set_option linter.unusedSimpArgs false
def blkT(t:TV):Bool:=decide (t.k=3)&&decide (Lib.trimS t.s.data.toList blanks4=[])
theorem own_setN{w:World}{B:Nat}{e:TypeId}{g n cap z:Nat}{xs:List Value}(h:w.ownsRow B e z (.slice (some ⟨g,0,none⟩) n cap) n xs)(k:Nat)(u:Value):
  (w.setCell ⟨g,k,none⟩ u).ownsRow B e z (.slice (some ⟨g,0,none⟩) n cap) n (xs.set k u):=by
 have hl:=h.1
 refine ⟨by simpa using hl,?_⟩
 rcases h.2 with ⟨h0,_⟩|⟨g',cap',cur,hv,hb,hg,hnc,hcm,hcs,htake⟩
 ·cases h0
 injection hv with h1 h2 h3
 injection h1 with h1
 injection h1 with h1
 subst h1 h3
 refine .inr ⟨g,cap,cur.setIfInBounds k u,rfl,hb,heap_setCell_same w g k cur e u hg,hnc,hcm,by simpa using hcs,?_⟩
 rw[←htake,Array.toList_setIfInBounds,List.take_set]
theorem own_frozenN{w:World}{B:Nat}{e:TypeId}{g n cap z:Nat}{xs:List Value}(h:w.ownsRow B e z (.slice (some ⟨g,0,none⟩) n cap) n xs)(k:Nat):w.frozen? ⟨g,k,none⟩=false:=by
 rcases h.2 with ⟨h0,_⟩|⟨g',cap',cur,hv,hb,hg,_⟩
 ·cases h0
 injection hv with h1 h2 h3
 injection h1 with h1
 injection h1 with h1
 subst h1
 exact frozen_of_row _ _ k _ e hg
theorem hidB{p:Prop}(h:p):Hid p:=h
theorem implIsBlank(t:TV)(w:World)(hs:t.s.size≤16777216):
  Calls Tryz.prog 62 #[.agg #[.int .i64 t.k,.string t.s]] w fun e w'=>e=.returned (.bool (blkT t))∧Below w.heap.size w w':=by
 obtain ⟨O,hO⟩: ∃O,O=w.alloc (.cells #[.int .i64 t.k,.string t.s] 74):=⟨_,rfl⟩
 have bO:Below w.heap.size w O:=by rw[hO];exact (Below.refl _ _).alloc (Nat.le_refl _) _
 have AO:BAt O w.heap.size [.int .i64 t.k,.string t.s]:=by rw[hO];exact BAt.new w #[.int .i64 t.k,.string t.s] _
 have c0:=AO.1 0 _ rfl
 have c1:=AO.1 1 _ rfl
 have CT:=hidB (implTrim t.s O (by omega))
 have HB:Hid (blkT t=(decide (t.k=3)&&decide (Lib.trimS t.s.data.toList blanks4=[]))):=rfl
 have HE:Hid (decide (Lib.trimS t.s.data.toList blanks4=[])=(⟨(Lib.trimS t.s.data.toList blanks4).toArray⟩:ByteArray).toList.isEmpty):=by
  show _=_
  rw[ByteArray.toList_eq]
  generalize Lib.trimS t.s.data.toList blanks4=x
  cases x<;>rfl
 generalize decide (Lib.trimS t.s.data.toList blanks4=[])=q at HB HE
 generalize (⟨(Lib.trimS t.s.data.toList blanks4).toArray⟩:ByteArray)=T at*
 generalize blkT t=R at*
 go_enter Tryz.func62,Tryz.ntmps62
 go_upto_region 1 with fail
 rw[←hO]
 clear hO AO
 by_cases hk:t.k=3
 ·have hkb:(t.k==3)=true:=beq_iff_eq.2 hk
  rw[decide_eq_true hk,Bool.true_and,HE.out]at HB
  go_wp2_with fail
  refine CT.out.mono ?_
  rintro e w1 ⟨rfl,b1⟩
  go_wp2_with fail
  go_ret
  exact ⟨by rw[HB.out];rfl,bO.trans (b1.mono bO.size)⟩
 have hkb:(t.k==3)=false:=beq_eq_false_iff_ne.2 hk
 rw[decide_eq_false hk,Bool.false_and]at HB
 go_wp2_with fail
 go_ret
 exact ⟨by rw[HB.out];rfl,bO⟩
theorem implIdxBlank(l:List TV)(v:Value)(w:World)(hl:l.length≤1048576)(hz: ∀t∈l,t.s.size≤16777216)(h:TokRow w v l):
  Calls Tryz.prog 78 #[v,.func (.func 62) #[] #[]] w fun e w'=>((e=.returned (.int .i64 (-1))∧ ∀j,j<l.length→blkT (l.getD j tv0)=false)∨(∃k:Nat,k<l.length∧e=.returned (.int .i64 k)∧blkT (l.getD k tv0)=true∧ ∀j,j<k→blkT (l.getD j tv0)=false))∧Below w.heap.size w w':=by
 have HZ:Hid (∀t∈l,t.s.size≤16777216):=hz
 clear hz
 rcases h with ⟨rfl,ao,cap,rfl⟩|⟨h0,g,off,cap,rfl,hg,hc⟩
 ·clear hl HZ
  go_enter Tryz.func78,Tryz.ntmps78
  go_wp2
  refine wp_loop_rounds 1 ?_
  rw[rounds_succ]
  go_wp2
  go_ret
  exact ⟨.inl ⟨rfl,fun j hj=>absurd hj (Nat.not_lt_zero _)⟩,Below.refl _ _⟩
 have HC:Hid (∀i,i<l.length→w.cell? ⟨g,off+i*2,none⟩=some (.int .i64 (l.getD i tv0).k)∧w.cell? ⟨g,off+i*2+1,none⟩=some (.string (l.getD i tv0).s)):=hc
 clear hc
 go_enter Tryz.func78,Tryz.ntmps78
 go_wp2
 go_loopw[8] (fun i wr=> ∃k:Nat,k≤l.length∧i=.int .i64 k∧Hid (∀j,j<k→blkT (l.getD j tv0)=false)∧Below w.heap.size w wr) (fun i _=>l.length-(intOf i).toNat)
 case atStart=>exact ⟨0,Nat.zero_le _,rfl,fun j hj=>absurd hj (Nat.not_lt_zero _),Below.refl _ _⟩
 obtain ⟨k,hk,rfl,HN,hbel⟩:=hrel
 by_cases hlt:k<l.length
 ·obtain ⟨c1,c3⟩:=HC.out k hlt
  have c1w:=(hbel.cell (p:=⟨g,off+k*2,none⟩) hg).trans c1
  have c3w:=(hbel.cell (p:=⟨g,off+k*2+1,none⟩) hg).trans c3
  have hki:(k:Int)<l.length:=by omega
  have hz1:(l.getD k tv0).s.size≤16777216:=HZ.out _ (by
   rw[List.getD_eq_getElem?_getD,List.getElem?_eq_getElem hlt]
   exact List.getElem_mem _)
  have CR:=hidB (implIsBlank (l.getD k tv0) wr hz1)
  have HT:Hid (blkT (l.getD k tv0)=false→ ∀j,j<k+1→blkT (l.getD j tv0)=false):=fun h j hj=>by
   by_cases hjk:j<k
   ·exact HN.out j hjk
   rw[show j=k by omega];exact h
  obtain ⟨S,hS⟩: ∃S,blkT (l.getD k tv0)=S:=⟨_,rfl⟩
  have HS:Hid (blkT (l.getD k tv0)=S):=hS
  rw[hS]at CR
  clear c1 c3 hz1 hS
  generalize (l.getD k tv0).k=ek at CR c1w
  generalize (l.getD k tv0).s=es at CR c3w
  go_wp2_with fail
  refine CR.out.mono ?_
  rintro e w1 ⟨rfl,b1⟩
  have hb1:Below w.heap.size w w1:=hbel.trans (b1.mono hbel.size)
  clear b1 c1w c3w CR hbel
  cases S with
  |true=>
   go_wp2_with fail
   go_ret
   exact ⟨.inr ⟨k,hlt,rfl,HS.out,HN.out⟩,hb1⟩
  |false=>
   have HT2:Hid (∀j,j<k+1→blkT (l.getD j tv0)=false):=HT.out HS.out
   clear HT
   go_wp2_with fail
   go_roundw
   case rel=>exact ⟨k+1,by omega,by go_num,HT2,hb1⟩
   case measure=>simp[intOf];omega
 have hki: ¬(k:Int)<l.length:=by omega
 go_wp2_with fail
 go_ret
 exact ⟨.inl ⟨rfl,fun j hj=>HN.out j (by omega)⟩,hbel⟩
structure KI (l:List TV) (i j:Nat) (d:List TV):Prop where
 len:d.length=l.length
 lt:i<j
 le:j≤l.length
 low:d.take i=(l.take j).filter (fun t=> !blkT t)
 high:d.drop j=l.drop j
theorem ki_filter{l:List TV}: ∀{k:Nat},k≤l.length→(∀j,j<k→blkT (l.getD j tv0)=false)→(l.take k).filter (fun t=> !blkT t)=l.take k
 |0,_,_=>by simp
 |k+1,hk,h=>by
  have e:l.take (k+1)=l.take k++[l.getD k tv0]:=by
   rw[List.take_add_one,List.getElem?_eq_getElem (by omega),List.getD_eq_getElem?_getD,List.getElem?_eq_getElem (by omega)]
   rfl
  rw[e,List.filter_append,ki_filter (by omega) (fun j hj=>h j (by omega)),List.filter_cons,h k (by omega)]
  rfl
theorem take_one{l:List TV}{k:Nat}(hk:k<l.length):l.take (k+1)=l.take k++[l.getD k tv0]:=by
 rw[List.take_add_one,List.getElem?_eq_getElem hk,List.getD_eq_getElem?_getD,List.getElem?_eq_getElem hk]
 rfl
theorem KI.start{l:List TV}{k:Nat}(hk:k<l.length)(h1:blkT (l.getD k tv0)=true)(h0: ∀j,j<k→blkT (l.getD j tv0)=false):KI l k (k+1) l:=
 ⟨rfl,by omega,by omega,by rw[take_one hk,List.filter_append,ki_filter (by omega) h0,List.filter_cons,h1];simp,rfl⟩
theorem KI.at{l d:List TV}{i j:Nat}(h:KI l i j d)(hj:j<l.length):d.getD j tv0=l.getD j tv0:=by
 have e:=congrArg (fun x=>x.head?) h.high
 simp only[List.head?_drop]at e
 rw[List.getD_eq_getElem?_getD,e,List.getD_eq_getElem?_getD]
theorem KI.skip{l d:List TV}{i j:Nat}(h:KI l i j d)(hj:j<l.length)(hb:blkT (l.getD j tv0)=true):KI l i (j+1) d:=
 ⟨h.len,by have:=h.lt;omega,hj,by rw[h.low,take_one hj,List.filter_append,List.filter_cons,hb];simp,by rw[←List.tail_drop,h.high,List.tail_drop]⟩
theorem KI.keep{l d:List TV}{i j:Nat}(h:KI l i j d)(hj:j<l.length)(hb:blkT (l.getD j tv0)=false):KI l (i+1) (j+1) (d.set i (l.getD j tv0)):=by
 have hlt:=h.lt
 have hle:=h.len
 refine ⟨by rw[List.length_set,hle],by omega,hj,?_,?_⟩
 ·have hi:i<(d.set i (l.getD j tv0)).length:=by rw[List.length_set];omega
  rw[take_one hi,List.take_set_of_le (Nat.le_refl _),h.low,take_one hj,List.filter_append,List.filter_cons,hb]
  simp only[Bool.not_false,if_true,List.filter_nil]
  congr 2
  rw[List.getD_eq_getElem?_getD,List.getElem?_set_self (by omega)]
  rfl
 rw[List.drop_set_of_lt (by omega),←List.tail_drop,h.high,List.tail_drop]
theorem KI.done{l d:List TV}{i:Nat}(h:KI l i l.length d):d.take i=l.filter (fun t=> !blkT t):=by rw[h.low,List.take_length]
end Go.Proofs.YtfdgehlobbeomaaGreatDoor
namespace Go.Proofs.YtfdgehlobbeomaaGreatDoor
open Go.RowKit
theorem digF_drop(s:ByteArray)(k:Nat)(h:k<s.size)(base n:Nat):digF base n (s.data.toList.drop k)=
  if 0≤hexN s[k].toNat∧hexN s[k].toNat<(base:Int)then digF base (n*base+(hexN s[k].toNat).toNat) (s.data.toList.drop (k+1))else none:=by
 rw[List.drop_eq_getElem_cons (by simpa using h),digF]
 rfl
theorem num_no{base most:Nat}{l:List UInt8}(h:most<l.length):numL base most l=none:=by unfold numL;rw[if_neg (by omega)]
theorem num_yes{base most:Nat}{l:List UInt8}(h:l.length≤most):numL base most l=digF base 0 l:=by unfold numL;rw[if_pos h]
theorem pow_room{n base d k:Nat}(hb:base≤16)(hd:d<base)(hn:n<16^k):n*base+d<16^(k+1):=by
 have h1:n*base≤n*16:=Nat.mul_le_mul_left _ hb
 rw[Nat.pow_succ]
 omega
theorem pow_le{k:Nat}(h:k≤11):16^k≤17592186044416:=Nat.pow_le_pow_right (by decide) h
def numA(r:Option Nat):Value:=match r with
 |none=> .tuple #[.int .i64 0,.bool false]
 |some n=> .tuple #[.int .i64 n,.bool true]
def alD(base:Nat)(l:List UInt8):Bool:=l.all fun c=>decide (0≤hexN c.toNat∧hexN c.toNat<(base:Int))
theorem alD_drop(s:ByteArray)(k:Nat)(h:k<s.size)(base:Nat):alD base (s.data.toList.drop k)=(decide (0≤hexN s[k].toNat∧hexN s[k].toNat<(base:Int))&&alD base (s.data.toList.drop (k+1))):=by
 rw[List.drop_eq_getElem_cons (by simpa using h)]
 rfl
theorem digF_no{base:Nat}: ∀{l:List UInt8} {n:Nat},alD base l=false→digF base n l=none
 |[],_,h=>by simp[alD]at h
 |c::r,n,h=>by
  rw[digF]
  split
  ·rename_i hc
   refine digF_no ?_
   have h2:(decide (0≤hexN c.toNat∧hexN c.toNat<(base:Int))&&alD base r)=false:=h
   rw[decide_eq_true hc]at h2
   simpa using h2
  rfl
theorem alD_at{base:Nat}{s:ByteArray}(h:alD base s.data.toList=true)(k:Nat)(hk:k<s.size):0≤hexN s[k].toNat∧hexN s[k].toNat<(base:Int):=
 of_decide_eq_true (List.all_eq_true.1 h s[k] (by
  have hk2:k<s.data.toList.length:=by simpa using hk
  exact List.getElem_mem hk2))
theorem implDigitsAlone(s:ByteArray)(base:Nat)(w:World)(hs:s.size≤1048576):
  Calls Tryz.prog 47 #[.string s,.int .i64 (base:Int)] w fun e w'=>e=.returned (.bool (alD base s.data.toList))∧w=w':=by
 go_enter Tryz.func47,Tryz.ntmps47
 go_wp2
 go_loop[9] (fun i=> ∃k:Nat,k≤s.size∧i=.int .i64 k∧alD base (s.data.toList.drop k)=alD base s.data.toList) (fun i=>s.size-(intOf i).toNat)
 case atStart=>exact ⟨0,Nat.zero_le _,rfl,rfl⟩
 obtain ⟨k,hk,rfl,hf⟩:=hrel
 have HR:Hid (alD base (s.data.toList.drop k)=alD base s.data.toList):=hf
 clear hf
 by_cases hlt:k<s.size
 ·obtain ⟨d,hd⟩: ∃d:Nat,s[k].toNat=d:=⟨_,rfl⟩
  have hd1:(d:Int)≤255:=by have:=s[k].toNat_lt;omega
  have HD:Hid (alD base (s.data.toList.drop k)=(decide (0≤hexN d∧hexN d<(base:Int))&&alD base (s.data.toList.drop (k+1)))):=by
   show _=_
   rw[alD_drop s k hlt base,hd]
  obtain ⟨hx1,hx2⟩:=hexN_le d
  have CH:Hid (∀W,CS 48 #[.int .u8 (d:Int)] W (.int .i64 (hexN d))):=fun W=>implHex d W (by omega)
  generalize hexN d=x at HD CH hx1 hx2
  have hki:(k:Int)<(s.size:Int):=by omega
  by_cases hx0:x<0
  ·have HZ:Hid (alD base s.data.toList=false):=by
    show _=_
    rw[←HR.out,HD.out,decide_eq_false (by omega)]
    rfl
   go_wp2_with fail
   refine (CH.out _).mono ?_
   rintro e w' ⟨rfl,rfl⟩
   go_wp2_with fail
   go_ret
   exact ⟨by rw[HZ.out];rfl,rfl⟩
  by_cases hx3:(base:Int)≤x
  ·have HZ:Hid (alD base s.data.toList=false):=by
    show _=_
    rw[←HR.out,HD.out,decide_eq_false (by omega)]
    rfl
   go_wp2_with fail
   refine (CH.out _).mono ?_
   rintro e w' ⟨rfl,rfl⟩
   go_wp2_with fail
   go_ret
   exact ⟨by rw[HZ.out];rfl,rfl⟩
  have HZ:Hid (alD base (s.data.toList.drop (k+1))=alD base s.data.toList):=by
   show _=_
   rw[←HR.out,HD.out,decide_eq_true (by omega)]
   rfl
  go_wp2_with fail
  refine (CH.out _).mono ?_
  rintro e w' ⟨rfl,rfl⟩
  go_wp2_with fail
  go_round
  case rel=>exact ⟨k+1,by omega,by go_num,HZ.out⟩
  case measure=>simp[intOf];omega
 have HZ:Hid (alD base s.data.toList=true):=by
  show _=_
  rw[←HR.out,List.drop_of_length_le (by simp;omega)]
  rfl
 have hki: ¬(k:Int)<(s.size:Int):=by omega
 go_wp2_with fail
 go_ret
 exact ⟨by rw[HZ.out];rfl,rfl⟩
theorem implDigits(s:ByteArray)(base most:Nat)(w:World)(hb:base≤16)(hm:most≤11):
  Calls Tryz.prog 28 #[.string s,.int .i64 (base:Int),.int .i64 (most:Int)] w fun e w'=>e=.returned (numA (numL base most s.data.toList))∧w=w':=by
 have hsl:s.data.toList.length=s.size:=by simp
 by_cases hlen:most<s.size
 ·have HF:Hid (numL base most s.data.toList=none):=num_no (by omega)
  have hlen':(most:Int)<(s.size:Int):=by omega
  clear hsl
  go_enter Tryz.func28,Tryz.ntmps28
  go_wp2
  go_ret2
  exact ⟨by rw[HF.out];rfl,rfl⟩
 have HF:Hid (numL base most s.data.toList=digF base 0 s.data.toList):=num_yes (by omega)
 have hlen': ¬(most:Int)<(s.size:Int):=by omega
 have hs11:s.size≤11:=by omega
 have CA:Hid (∀W,CS 47 #[.string s,.int .i64 (base:Int)] W (.bool (alD base s.data.toList))):=fun W=>implDigitsAlone s base W (by omega)
 clear hsl
 cases ha:alD base s.data.toList with
 |false=>
  have HZ:Hid (digF base 0 s.data.toList=none):=digF_no ha
  rw[ha]at CA
  clear ha
  go_enter Tryz.func28,Tryz.ntmps28
  go_wp2_with fail
  refine (CA.out _).mono ?_
  rintro e w' ⟨rfl,rfl⟩
  go_wp2_with fail
  go_ret2
  exact ⟨by rw[HF.out,HZ.out];rfl,rfl⟩
 |true=>
  have HA:Hid (∀k (hk:k<s.size),0≤hexN s[k].toNat∧hexN s[k].toNat<(base:Int)):=alD_at ha
  rw[ha]at CA
  clear ha
  go_enter Tryz.func28,Tryz.ntmps28
  go_wp2_with fail
  refine (CA.out _).mono ?_
  rintro e w' ⟨rfl,rfl⟩
  go_wp2_with fail
  go_loop[8,22] (fun x i=> ∃k n:Nat,k≤s.size∧n<16^k∧i=.int .i64 k∧x=.int .i64 n∧digF base n (s.data.toList.drop k)=digF base 0 s.data.toList) (fun _ i=>s.size-(intOf i).toNat)
  case atStart=>exact ⟨0,0,Nat.zero_le _,by decide,rfl,rfl,rfl⟩
  obtain ⟨k,n,hk,hn,rfl,rfl,hf⟩:=hrel
  have HR:Hid (digF base n (s.data.toList.drop k)=digF base 0 s.data.toList):=hf
  have HN:Hid (n<16^k):=hn
  have hk11:k≤11:=by omega
  have hn2:n<17592186044416:=Nat.lt_of_lt_of_le hn (pow_le hk11)
  clear hf hn
  by_cases hlt:k<s.size
  ·have hx:=HA.out k hlt
   obtain ⟨d,hd⟩: ∃d:Nat,s[k].toNat=d:=⟨_,rfl⟩
   rw[hd]at hx
   have hd1:(d:Int)≤255:=by have:=s[k].toNat_lt;omega
   have HD:Hid (digF base n (s.data.toList.drop k)=if 0≤hexN d∧hexN d<(base:Int)then digF base (n*base+(hexN d).toNat) (s.data.toList.drop (k+1))else none):=by
    show _=_
    rw[digF_drop s k hlt base n,hd]
   obtain ⟨hx1,hx2⟩:=hexN_le d
   have CH:Hid (∀W,CS 48 #[.int .u8 (d:Int)] W (.int .i64 (hexN d))):=fun W=>implHex d W (by omega)
   generalize hexN d=x at HD CH hx1 hx2 hx
   have hki:(k:Int)<(s.size:Int):=by omega
   obtain ⟨y,rfl⟩: ∃y:Nat,x=(y:Int):=⟨x.toNat,by omega⟩
   obtain ⟨p,hp⟩: ∃p:Nat,n*base=p:=⟨_,rfl⟩
   have HP:Hid (n*base=p):=hp
   have hp2:(n:Int)*(base:Int)=(p:Int):=by rw[←hp];simp
   have hp3:p+y<281474976710656:=by
    have h1:n*base≤n*16:=Nat.mul_le_mul_left _ hb
    omega
   have HX:Hid (y<base):=by show _<_;omega
   clear hx hp
   go_wp2_with fail
   refine (CH.out _).mono ?_
   rintro e w' ⟨rfl,rfl⟩
   go_wp2_with fail
   go_round
   case rel=>
    refine ⟨k+1,n*base+y,by omega,pow_room hb HX.out HN.out,by go_num,by rw[HP.out];go_num,?_⟩
    rw[←HR.out,HD.out,if_pos ⟨by omega,by have:=HX.out;omega⟩]
    simp
   case measure=>simp[intOf];omega
  have HZ:Hid (digF base 0 s.data.toList=some n):=by
   show _=_
   rw[←HR.out,List.drop_of_length_le (by simp;omega)]
   rfl
  have hki: ¬(k:Int)<(s.size:Int):=by omega
  go_wp2_with fail
  go_ret2
  exact ⟨by rw[HF.out,HZ.out];rfl,rfl⟩
end Go.Proofs.YtfdgehlobbeomaaGreatDoor
