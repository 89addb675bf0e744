/- LetWalk, TokPlain, PctWalk, CloneWalk, TrimWalk, ExtPlain, RowMore. -/
import Derived.Test.YtfdgehlobbeomaaGreatDoorQM03
import Derived.Lib.SlTrimSet
set_option maxHeartbeats 1000000
namespace Go.Proofs.YtfdgehlobbeomaaGreatDoor
open Go.RowKit
theorem implIsLetter(c:Nat)(w:World)(hc:(c:Int)≤255):
  Calls Tryz.prog 132 #[.int .u8 (c:Int)] w fun e w'=>e=.returned (.bool (letterN c))∧w=w':=by
 by_cases h1:97≤(c:Int)
 ·by_cases h2:(c:Int)≤122
  ·have HV:Hid (letterN c=true):=by show _=_;unfold letterN;simp;omega
   go_enter Tryz.func132,Tryz.ntmps132
   go_wp2
   go_ret
   exact ⟨ret_bool (by rw[HV.out]<;>first|rfl|(simp<;>omega)),rfl⟩
  have HV:Hid (letterN c=false):=by show _=_;unfold letterN;simp;omega
  have h3:65≤(c:Int):=by omega
  have h4: ¬(c:Int)≤90:=by omega
  go_enter Tryz.func132,Tryz.ntmps132
  go_wp2
  go_ret
  exact ⟨ret_bool (by rw[HV.out]<;>first|rfl|(simp<;>omega)),rfl⟩
 by_cases h3:65≤(c:Int)
 ·by_cases h4:(c:Int)≤90
  ·have HV:Hid (letterN c=true):=by show _=_;unfold letterN;simp;omega
   go_enter Tryz.func132,Tryz.ntmps132
   go_wp2
   go_ret
   exact ⟨ret_bool (by rw[HV.out]<;>first|rfl|(simp<;>omega)),rfl⟩
  have HV:Hid (letterN c=false):=by show _=_;unfold letterN;simp;omega
  go_enter Tryz.func132,Tryz.ntmps132
  go_wp2
  go_ret
  exact ⟨ret_bool (by rw[HV.out]<;>first|rfl|(simp<;>omega)),rfl⟩
 have HV:Hid (letterN c=false):=by show _=_;unfold letterN;simp;omega
 go_enter Tryz.func132,Tryz.ntmps132
 go_wp2
 go_ret
 exact ⟨ret_bool (by rw[HV.out]<;>first|rfl|(simp<;>omega)),rfl⟩
def amongL(l:List UInt8)(c:Int):Bool:=l.any fun b=>decide ((b.toNat:Int)=c)
def letterZ(c:Int):Bool:=decide (97≤c∧c≤122)||decide (65≤c∧c≤90)
end Go.Proofs.YtfdgehlobbeomaaGreatDoor
namespace Go.Proofs.YtfdgehlobbeomaaGreatDoor
open Go.RowKit
set_option linter.unusedVariables false
def nmB(c:UInt8):Bool:=letterZ (c.toNat:Int)||decide (48≤c.toNat∧c.toNat≤57)||amongL [58,95,45,46] (c.toNat:Int)
def blkB(c:UInt8):Bool:=decide (c.toNat=32)||decide (c.toNat=9)||decide (c.toNat=10)||decide (c.toNat=13)
def nameN(r:List UInt8):Nat:=if ((r.take 41).takeWhile nmB).length=41 then 0 else ((r.take 41).takeWhile nmB).length
structure MR where
 ts:List TV
 n:Nat
 code:Nat
def noMR(code:Nat):MR:=⟨[],0,code⟩
def shMR(k:Nat)(m:MR):MR:=⟨m.ts,k+m.n,m.code⟩
def nxt(at_:Nat)(m:MR):Int:=if m.code=0 then ((at_+m.n:Nat):Int)else 0
def bytesV(l:List UInt8):ByteArray:=⟨l.toArray⟩
def skipR(r m:List UInt8):MR:=if Lib.index r m= -1 then noMR 1 else ⟨[],(Lib.index r m).toNat+m.length,0⟩
def cdataR(r:List UInt8):MR:=if Lib.index r [93,93,62]= -1 then noMR 1 else if Lib.index r [93,93,62]=0 then ⟨[],3,0⟩else ⟨[⟨3,bytesV (r.take (Lib.index r [93,93,62]).toNat)⟩],(Lib.index r [93,93,62]).toNat+3,0⟩
def closeE(r:List UInt8):Nat:=nameN r+((r.drop (nameN r)).takeWhile blkB).length
def closeR(r:List UInt8):MR:=if closeE r=r.length then noMR 1 else if nameN r=0∨r[closeE r]? ≠some 62 then noMR 2 else ⟨[⟨2,bytesV (r.take (nameN r))⟩],closeE r+1,0⟩
def nxQ(q c:UInt8):UInt8:=if q=0∧(c=34∨c=39)then c else if q=c then 0 else q
def scQ:UInt8→List UInt8→Nat
 |_,[]=>0
 |q,c::t=>if q=0∧c=62 then 0 else 1+scQ (nxQ q c) t
def openE(r:List UInt8):Nat:=nameN r+scQ 0 (r.drop (nameN r))
def openM(r:List UInt8):List UInt8:=(r.take (openE r)).drop (nameN r)
def badM(m:List UInt8):Bool:=match m with
 |[]=>false
 |c::t=>decide (c::t≠[47])&& !blkB c
def openR(r:List UInt8):MR:=if openE r=r.length then noMR 1 else if nameN r=0∨badM (openM r)=true then noMR 2 else
 ⟨⟨1,bytesV (r.take (nameN r))⟩::(if (openM r).getLast? =some 47 then [⟨2,bytesV (r.take (nameN r))⟩]else []),openE r+1,0⟩
def markR(r:List UInt8):MR:=
 if Lib.hasPrefix r [60,33,45,45]=true then shMR 4 (skipR (r.drop 4) [45,45,62])
 else if Lib.hasPrefix r [60,63]=true then shMR 2 (skipR (r.drop 2) [63,62])
 else if Lib.hasPrefix r [60,33,91,67,68,65,84,65,91]=true then shMR 9 (cdataR (r.drop 9))
 else if Lib.hasPrefix r [60,47]=true then shMR 2 (closeR (r.drop 2))
 else shMR 1 (openR (r.drop 1))
def stepR(r:List UInt8):MR:=if r.head? =some 60 then markR r else match unF (upB 60 r)with
 |some t=>⟨[⟨3,bytesV t⟩],(upB 60 r).length,0⟩
 |none=>noMR 2
theorem nameN_le(r:List UInt8):nameN r≤r.length∧nameN r≤40:=by
 have h1:=(List.takeWhile_sublist nmB (l:=r.take 41)).length_le
 rw[List.length_take]at h1
 unfold nameN
 split<;>omega
theorem scQ_le: ∀(l:List UInt8) (q:UInt8),scQ q l≤l.length
 |[],q=>Nat.le_refl _
 |c::t,q=>by
  rw[scQ]
  split
  ·exact Nat.zero_le _
  have:=scQ_le t (nxQ q c)
  rw[List.length_cons]
  omega
theorem openE_le(r:List UInt8):openE r≤r.length:=by
 unfold openE
 have h1:=scQ_le (r.drop (nameN r)) 0
 rw[List.length_drop]at h1
 have:=(nameN_le r).1
 omega
theorem closeE_le(r:List UInt8):closeE r≤r.length:=by
 unfold closeE
 have h1:=(List.takeWhile_sublist blkB (l:=r.drop (nameN r))).length_le
 rw[List.length_drop]at h1
 have:=(nameN_le r).1
 omega
theorem skip_le(r m:List UInt8):(skipR r m).n≤r.length:=by
 unfold skipR
 split
 ·exact Nat.zero_le _
 rename_i h
 have h0:=Lib.index_ge r m
 have:=Lib.index_room r m (by omega)
 show (Lib.index r m).toNat+m.length≤_
 omega
theorem cdata_le(r:List UInt8):(cdataR r).n≤r.length:=by
 unfold cdataR
 split
 ·exact Nat.zero_le _
 rename_i h
 have h0:=Lib.index_ge r [93,93,62]
 have h1:=Lib.index_room r [93,93,62] (by omega)
 have h2:([93,93,62]:List UInt8).length=3:=rfl
 rw[h2]at h1
 split
 ·show 3≤_;omega
 show (Lib.index r [93,93,62]).toNat+3≤_
 omega
theorem close_le(r:List UInt8):(closeR r).n≤r.length:=by
 have:=closeE_le r
 unfold closeR
 split
 ·exact Nat.zero_le _
 split
 ·exact Nat.zero_le _
 show closeE r+1≤_
 omega
theorem open_le(r:List UInt8):(openR r).n≤r.length:=by
 have:=openE_le r
 unfold openR
 split
 ·exact Nat.zero_le _
 split
 ·exact Nat.zero_le _
 show openE r+1≤_
 omega
theorem pre_len{r m:List UInt8}(h:Lib.hasPrefix r m=true):m.length≤r.length:=by
 unfold Lib.hasPrefix at h
 exact (List.isPrefixOf_iff_prefix.1 h).length_le
theorem mark_le{r:List UInt8}(h:r≠[]):1≤(markR r).n∧(markR r).n≤r.length:=by
 have hl:0<r.length:=List.length_pos_iff.2 h
 unfold markR
 split
 ·rename_i h1
  have h2:=pre_len h1
  have h3:=skip_le (r.drop 4) [45,45,62]
  rw[List.length_drop]at h3
  have h4:([60,33,45,45]:List UInt8).length=4:=rfl
  show 1≤4+_∧4+_≤_
  omega
 split
 ·rename_i h1
  have h2:=pre_len h1
  have h3:=skip_le (r.drop 2) [63,62]
  rw[List.length_drop]at h3
  have h4:([60,63]:List UInt8).length=2:=rfl
  show 1≤2+_∧2+_≤_
  omega
 split
 ·rename_i h1
  have h2:=pre_len h1
  have h3:=cdata_le (r.drop 9)
  rw[List.length_drop]at h3
  have h4:([60,33,91,67,68,65,84,65,91]:List UInt8).length=9:=rfl
  show 1≤9+_∧9+_≤_
  omega
 split
 ·rename_i h1
  have h2:=pre_len h1
  have h3:=close_le (r.drop 2)
  rw[List.length_drop]at h3
  have h4:([60,47]:List UInt8).length=2:=rfl
  show 1≤2+_∧2+_≤_
  omega
 have h3:=open_le (r.drop 1)
 rw[List.length_drop]at h3
 show 1≤1+_∧1+_≤_
 omega
theorem step_le{r:List UInt8}(h:r≠[])(hc:(stepR r).code=0):1≤(stepR r).n∧(stepR r).n≤r.length:=by
 unfold stepR at hc⊢
 split
 ·exact mark_le h
 rename_i h1
 rw[if_neg h1]at hc
 split
 ·show 1≤(upB 60 r).length∧(upB 60 r).length≤_
  refine ⟨?_,(List.takeWhile_sublist _).length_le⟩
  cases r with
  |nil=>exact absurd rfl h
  |cons c t=>
   have hc2:c≠60:=fun e=>h1 (by rw[e];rfl)
   unfold upB
   rw[List.takeWhile_cons,if_pos (bne_iff_ne.2 hc2),List.length_cons]
   omega
 rename_i h2
 rw[h2]at hc
 cases hc
end Go.Proofs.YtfdgehlobbeomaaGreatDoor
namespace Go.Proofs.YtfdgehlobbeomaaGreatDoor
open Go.RowKit
theorem below_drewN{B:Nat}{w w':World}(h:Below B w w')(n:Nat):Below B w (w'.drewN n):=⟨h.os,h.tape,h.output,h.size,h.block⟩
theorem run_at(P:Program)(t:TypeId)(h:P.underlying t=some .string)(s:ByteArray)(i:Int)(j d:Nat)(hj:j<s.size)(hi:i=(j:Int))(hd:s[j].toNat=d)(W:World):
  (Instr.index t (.string s) (.int .i64 i)).run P W=.ok (.int .u8 (d:Int)) W:=by
 subst hi
 rw[run_index_string W t s .i64 _ h,dif_pos (by omega)]
 simp[hd]
theorem strClone(s:ByteArray)(w:World)(hlim:s.size≤281474976710656):
  Calls Tryz.prog 91 #[.string s] w fun e w'=>e=.returned (.string s)∧Below w.heap.size w w':=by
 go_enter Tryz.func91,Tryz.ntmps91
 go_wp2_with (go_at_call 103;refine (Tryz.stringslite_Clone _ _ hlim).mono ?_;rintro e w1 ⟨rfl,hb1⟩)
 go_ret
 exact ⟨rfl,hb1⟩
def blanks4:List UInt8:=[32,9,10,13]
def isBlank(c:UInt8):Prop:=c.toNat=32∨c.toNat=9∨c.toNat=10∨c.toNat=13
theorem blank_yes{c:UInt8}(h:isBlank c):blanks4.contains c=true:=by
 rcases h with h|h|h|h
 ·rw[show c=32 from UInt8.toNat_inj.1 (by rw[h];rfl)];rfl
 ·rw[show c=9 from UInt8.toNat_inj.1 (by rw[h];rfl)];rfl
 ·rw[show c=10 from UInt8.toNat_inj.1 (by rw[h];rfl)];rfl
 rw[show c=13 from UInt8.toNat_inj.1 (by rw[h];rfl)];rfl
theorem blank_no{c:UInt8}(h: ¬isBlank c):blanks4.contains c=false:=by
 unfold isBlank at h
 simp only[blanks4,List.contains_cons,List.contains_nil,Bool.or_false,Bool.or_eq_false_iff,beq_eq_false_iff_ne,ne_eq]
 refine ⟨?_,?_,?_,?_⟩<;>(intro e;subst e;exact h (by decide))
theorem trimS_le (l cs : List UInt8) : (Lib.trimS l cs).length ≤ l.length := by
 have a : ∀ m : List UInt8, (m.dropWhile (cs.contains ·)).length ≤ m.length := fun m => (List.dropWhile_sublist _).length_le
 unfold Lib.trimS Lib.trimLeftS Lib.trimRightS
 refine Nat.le_trans (a _) ?_
 rw [List.length_reverse]
 refine Nat.le_trans (a _) ?_
 rw [List.length_reverse]
 exact Nat.le_refl _
theorem implTrim(s:ByteArray)(w:World)(hs:s.size≤1099511627776):
  Calls Tryz.prog 79 #[.string s] w fun e w'=>e=.returned (.string ⟨(Lib.trimS s.data.toList blanks4).toArray⟩)∧Below w.heap.size w w':=by
 have hle:(⟨(Lib.trimS s.data.toList blanks4).toArray⟩:ByteArray).size≤281474976710656:=by
  have:=trimS_le s.data.toList blanks4
  have e:(⟨(Lib.trimS s.data.toList blanks4).toArray⟩:ByteArray).size=(Lib.trimS s.data.toList blanks4).length:=by simp[ByteArray.size]
  have e2:s.data.toList.length=s.size:=by simp
  omega
 have ct:=fun W=>Any.strings_Trim_laid Tryz.lays160 (by kernel_rfl) s ⟨#[32,9,10,13]⟩ W (by omega) (by decide) (ascii_of_all (by decide))
 have HT:Hid (∀W,CB 92 #[.string s,.string ⟨#[32,9,10,13]⟩] W (.string ⟨(Lib.trimS s.data.toList blanks4).toArray⟩)):=ct
 clear ct
 go_enter Tryz.func79,Tryz.ntmps79
 go_wp2_with fail
 refine (HT.out _).mono ?_
 rintro e wa ⟨rfl,ba⟩
 go_wp2_with fail
 refine (strClone _ _ hle).mono ?_
 rintro e wb ⟨rfl,bb⟩
 go_wp2
 go_ret
 exact ⟨rfl,ba.trans (bb.mono ba.size)⟩
theorem extract_list(s:ByteArray)(a b:Nat):(s.extract a b).data.toList=(s.data.toList.take b).drop a:=by
 rw[ByteArray.data_extract,Array.toList_extract,List.drop_take]
theorem take_data(s:ByteArray)(k:Nat):(s.extract 0 k).data.toList=s.data.toList.take k:=by rw[extract_list];rfl
theorem drop_data(s:ByteArray)(k:Nat):(s.extract k s.size).data.toList=s.data.toList.drop k:=by rw[extract_list,take_all s s.size (Nat.le_refl _)]
theorem mk_data(s:ByteArray):(⟨s.data.toList.toArray⟩:ByteArray)=s:=by cases s;simp
theorem while_cut{p:UInt8→Bool}{l:List UInt8}{k:Nat}(h: ∀c∈l.take k,p c=true):l.takeWhile p=l.take k++(l.drop k).takeWhile p∧l.dropWhile p=(l.drop k).dropWhile p:=by
 induction k generalizing l with
 |zero=>simp
 |succ k ih=>
  cases l with
  |nil=>simp
  |cons c r=>
   rw[List.take_succ_cons]at h
   have hc:=h c (by simp)
   obtain ⟨h1,h2⟩:=ih (l:=r) fun x hx=>h x (by simp[hx])
   rw[List.takeWhile_cons,List.dropWhile_cons,hc,if_pos rfl,if_pos rfl,h1,h2]
   simp
theorem empty_yes{u:ByteArray}(h:u.size=0):u.toList.isEmpty=true:=by
 rw[ByteArray.toList_eq,List.isEmpty_iff_length_eq_zero]
 simpa using h
theorem empty_no{u:ByteArray}(h:0<u.size):u.toList.isEmpty=false:=by
 cases he:u.toList.isEmpty with
 |false=>rfl
 |true=>
  rw[ByteArray.toList_eq,List.isEmpty_iff_length_eq_zero]at he
  have:u.size=0:=by simpa using he
  omega
theorem own_take{w:World}{B:Nat}{e:TypeId}{g n cap:Nat}{xs:List Value}(h:w.ownsRow B e 1 (.slice (some ⟨g,0,none⟩) n cap) n xs)(m:Nat)(hm:m≤n):
  w.ownsRow B e 1 (.slice (some ⟨g,0,none⟩) m cap) m (xs.take m):=by
 have hl:=h.1
 rcases h.2 with ⟨hh,_⟩|⟨g',cap',cur,hh,h1,h2,h3,h4,h5,h6⟩
 ·cases hh
 cases hh
 refine ⟨by rw[List.length_take];omega,.inr ⟨g,cap,cur,rfl,h1,h2,by omega,h4,h5,?_⟩⟩
 rw[←h6,List.take_take,Nat.mul_one,Nat.mul_one,Nat.min_eq_left hm]
theorem scells_take(fs:List ByteArray)(m:Nat):(scells fs).take m=scells (fs.take m):=by
 unfold scells
 rw[List.map_take]
theorem own_cap{w:World}{B:Nat}{e:TypeId}{g n cap:Nat}{xs:List Value}(h:w.ownsRow B e 1 (.slice (some ⟨g,0,none⟩) n cap) n xs):n≤cap:=by
 rcases h.2 with ⟨h,_⟩|⟨_,_,_,h,_,_,h3,_⟩
 ·cases h
 cases h;exact h3
end Go.Proofs.YtfdgehlobbeomaaGreatDoor
