/- RuleBack, AsciiWalk, RuneOk, PutWalk, PutRunesWalk, RunesPlain, RunesBack. -/
import Derived.Test.YtijliddchoehhaaGreatDoorQA09
import Derived.Lib.RuneBytes
import Derived.Lib.TrimUEq
import Derived.Lib.MapLaws
import Derived.Lib.ValidLaws
import Derived.Lib.RuneCount
set_option maxHeartbeats 400000
namespace Go.Proofs.YtijliddchoehhaaGreatDoor
open Go.RowKit
set_option linter.unusedVariables false
def lineT(x:ByteArray):ByteArray:=⟨(lowerL (Lib.trimS x.data.toList blanks4)).toArray⟩
def passB(t:ByteArray):Bool:=decide (t.size=0)||Lib.hasPrefix t.data.toList [47,47]
def readR(t:ByteArray):RV:=if t.data.toList.head? =some 33 then ⟨partsL (t.extract 1 t.size),true⟩else ⟨partsL t,false⟩
def parseF:List ByteArray→Nat→List RV→List RV×Int
 |[],_,acc=>(acc,-1)
 |x::xs,i,acc=>if passB (lineT x)=true then parseF xs (i+1) acc else if rulesB (acc++[readR (lineT x)])=true then parseF xs (i+1) (acc++[readR (lineT x)])else ([],i)
def parseR(s:ByteArray):List RV×Int:=parseF (fieldsL s 10) 0 []
theorem map_toL_inj: ∀{a b:List ByteArray},a.map toL=b.map toL→a=b
 |[],[],_=>rfl
 |[],_::_,h=>by simp at h
 |_::_,[],h=>by simp at h
 |x::xs,y::ys,h=>by
  simp only[List.map_cons,List.cons.injEq]at h
  rw[toL_inj h.1,map_toL_inj h.2]
theorem fields_of{s:ByteArray}{b:UInt8}{fs:List ByteArray}(h:spl b s.data.toList=fs.map toL):fieldsL s (b.toNat:Int)=fs:=by
 have e:=fieldsL_spl s b
 rw[h]at e
 exact map_toL_inj e
theorem jn_cons2(b:UInt8)(x y:ByteArray)(ys:List ByteArray):jn b (x::y::ys)=x.data.toList++b::jn b (y::ys):=by simp[jn]
theorem jn_spl{b:UInt8}: ∀{ls:List ByteArray},ls≠[]→(∀x∈ls,∀c∈x.data.toList,c≠b)→spl b (jn b ls)=ls.map toL
 |[],h,_=>absurd rfl h
 |[x],_,h=>by
  have e:jn b [x]=x.data.toList:=by simp[jn]
  rw[e,spl_none b (h x (by simp))]
  rfl
 |x::y::ys,_,h=>by
  rw[jn_cons2,spl_app,spl_none b (h x (by simp)),jn_spl (by simp) (fun z hz=>h z (List.mem_cons_of_mem _ hz))]
  rfl
theorem part_chars{ex:Bool}{n i:Nat}{p:ByteArray}(h:partB ex n i p=true):0<p.size∧ ∀c∈p.data.toList,c=42∨labB c=true:=by
 unfold partB at h
 simp only[Bool.or_eq_true,Bool.and_eq_true,decide_eq_true_eq]at h
 have hs:p.data.toList.length=p.size:=by simp
 rcases h with h|h
 ·rw[h.1.1]at hs
  refine ⟨by simp at hs;omega,fun c hc=> ?_⟩
  rw[h.1.1]at hc
  exact .inl (List.mem_singleton.1 hc)
 obtain ⟨h1,_,_,_,h2⟩:=labL_parts h
 exact ⟨by omega,fun c hc=> .inr (h2 c hc)⟩
theorem mk_size(l:List UInt8):(⟨l.toArray⟩:ByteArray).size=l.length:=by
 show l.toArray.size=_
 rw[List.size_toArray]
theorem parts_back{ls:List ByteArray}(hne:ls≠[])(h: ∀p∈ls,0<p.size∧ ∀c∈p.data.toList,c=42∨labB c=true):partsL ⟨(jn 46 ls.reverse).toArray⟩=ls∧0<(jn 46 ls.reverse).length∧(jn 46 ls.reverse).head? ≠some 33:=by
 have hr:ls.reverse≠[]:=by simpa using hne
 have hno: ∀x∈ls.reverse,∀c∈x.data.toList,c≠46:=fun x hx c hc e=>by
  rcases (h x (by simpa using hx)).2 c hc with h1|h1
  ·rw[e]at h1;exact absurd h1 (by decide)
  rw[e]at h1;exact absurd h1 (by decide)
 have hf:=fields_of (s:=⟨(jn 46 ls.reverse).toArray⟩) (jn_spl hr hno)
 have hc: ∃c r,jn 46 ls.reverse=c::r∧(c=42∨labB c=true):=by
  cases hl:ls.reverse with
  |nil=>exact absurd hl hr
  |cons x xs=>
   have hx:x∈ls:=by
    have:x∈ls.reverse:=by rw[hl];simp
    simpa using this
   obtain ⟨h0,h1⟩:=h x hx
   cases hd:x.data.toList with
   |nil=>
    have:x.data.toList.length=x.size:=by simp
    rw[hd]at this
    simp at this
    omega
   |cons c r=>
    refine ⟨c,r++xs.flatMap fun y=>46::y.data.toList,?_,h1 c (by rw[hd];simp)⟩
    show x.data.toList++xs.flatMap (fun y=>46::y.data.toList)=_
    rw[hd]
    rfl
 obtain ⟨c,r,e,hc⟩:=hc
 refine ⟨?_,by rw[e];simp,?_⟩
 ·unfold partsL
  rw[if_neg (by rw[mk_size,e];simp)]
  have:fieldsL ⟨(jn 46 ls.reverse).toArray⟩ 46=ls.reverse:=hf
  rw[this,List.reverse_reverse]
 rw[e]
 intro h1
 simp only[List.head?_cons,Option.some.injEq]at h1
 rw[h1]at hc
 exact absurd hc (by decide)
theorem rules_each{l:List RV}(h:rulesB l=true): ∀r∈l,ruleB r=true:=by
 intro r hr
 obtain ⟨i,hi,rfl⟩:=List.getElem_of_mem hr
 unfold rulesB at h
 simp only[Bool.and_eq_true]at h
 have:=all_range.1 h.1 i hi
 unfold newB at this
 simp only[Bool.and_eq_true]at this
 have h1:=this.1
 rwa[List.getD_eq_getElem?_getD,List.getElem?_eq_getElem hi]at h1
theorem parseF_right: ∀(xs:List ByteArray) (i:Nat) (acc:List RV),rulesB acc=true→(∃l,parseF xs i acc=(l,-1)∧rulesB l=true)∨ ∃k:Nat,parseF xs i acc=([],(k:Int))
 |[],i,acc,h=> .inl ⟨acc,rfl,h⟩
 |x::xs,i,acc,h=>by
  rw[parseF]
  split
  ·exact parseF_right xs (i+1) acc h
  split
  ·next h2=>exact parseF_right xs (i+1) _ h2
  exact .inr ⟨i,rfl⟩
theorem parseR_right(s:ByteArray):(∃l,parseR s=(l,-1)∧rulesB l=true)∨ ∃k:Nat,parseR s=([],(k:Int)):=parseF_right _ 0 [] (by decide)
theorem parse_ok(s:ByteArray):rulesB (parseR s).1=true:=by
 rcases parseR_right s with ⟨l,h,hl⟩|⟨k,h⟩
 ·rw[h];exact hl
 rw[h];exact (by decide:rulesB []=true)
end Go.Proofs.YtijliddchoehhaaGreatDoor
namespace Go.Proofs.YtijliddchoehhaaGreatDoor
open Go.RowKit
def asciiB(l:List UInt8):Bool:=l.all fun c=>decide (c.toNat<128)
theorem asciiB_yes(s:ByteArray)(h: ∀j,(hj:j<s.size)→s[j].toNat<128):asciiB s.data.toList=true:=by
 unfold asciiB
 rw[List.all_eq_true]
 intro c hc
 obtain ⟨j,hj,rfl⟩:=List.getElem_of_mem hc
 exact decide_eq_true (h j (by simpa using hj))
theorem asciiB_no(s:ByteArray)(k:Nat)(hk:k<s.size)(h:128≤s[k].toNat):asciiB s.data.toList=false:=by
 unfold asciiB
 rw[List.all_eq_false]
 refine ⟨s[k],?_,by simpa using h⟩
 exact List.mem_iff_getElem.2 ⟨k,by simpa using hk,rfl⟩
theorem specAscii(s:ByteArray)(w:World)(hs:s.size≤maxLen):
  Calls Tryz.prog 109 #[.string s] w fun e w'=>e=.returned (.bool (asciiB s.data.toList))∧w=w':=by
 unfold maxLen at hs
 go_enter Tryz.func109,Tryz.ntmps109
 go_wp2
 go_loop[3] (fun i=> ∃k:Nat,k≤s.size∧i=.int .i64 k∧ ∀j,(hj:j<s.size)→j<k→s[j].toNat<128) (fun i=>s.size-(intOf i).toNat)
 case atStart=>exact ⟨0,Nat.zero_le _,rfl,fun j _ h=>by omega⟩
 obtain ⟨k,hk,rfl,hall⟩:=hrel
 have HA:Hid (∀j,(hj:j<s.size)→j<k→s[j].toNat<128):=hall
 clear hall
 by_cases hlt:k<s.size
 ·by_cases hb:s[k].toNat<128
  ·have hb':(s[k].toNat:Int)≤127:=by omega
   go_wp2
   go_round
   case rel=>
    refine ⟨k+1,by omega,by go_num,fun j hj h=> ?_⟩
    by_cases e:j=k
    ·subst e;omega
    exact HA.out j hj (by omega)
   case measure=>simp[intOf];omega
  have hb':127<(s[k].toNat:Int):=by omega
  go_wp2
  go_ret
  exact ⟨ret_bool (asciiB_no s k hlt (by omega)).symm,rfl⟩
 go_wp2
 go_ret
 exact ⟨ret_bool (asciiB_yes s fun j hj=>HA.out j hj (by omega)).symm,rfl⟩
theorem implAscii(s:ByteArray)(w:World)(hs:s.size≤maxLen):
  Calls Tryz.prog 105 #[.string s] w fun e w'=>e=.returned (.bool (asciiB s.data.toList))∧w=w':=by
 unfold maxLen at hs
 go_enter Tryz.func105,Tryz.ntmps105
 go_wp2
 go_loop[6] (fun i=> ∃k:Nat,k≤s.size∧i=.int .i64 k∧ ∀j,(hj:j<s.size)→j<k→s[j].toNat<128) (fun i=>s.size-(intOf i).toNat)
 case atStart=>exact ⟨0,Nat.zero_le _,rfl,fun j _ h=>by omega⟩
 obtain ⟨k,hk,rfl,hall⟩:=hrel
 have HA:Hid (∀j,(hj:j<s.size)→j<k→s[j].toNat<128):=hall
 clear hall
 by_cases hlt:k<s.size
 ·by_cases hb:s[k].toNat<128
  ·have hb': ¬128≤(s[k].toNat:Int):=by omega
   clear hb
   go_wp2
   go_round
   case rel=>
    refine ⟨k+1,by omega,by go_num,fun j hj h=> ?_⟩
    by_cases e:j=k
    ·subst e;omega
    exact HA.out j hj (by omega)
   case measure=>simp[intOf];omega
  have hb':128≤(s[k].toNat:Int):=by omega
  go_wp2
  go_ret
  exact ⟨ret_bool (asciiB_no s k hlt (by omega)).symm,rfl⟩
 go_wp2
 go_ret
 exact ⟨ret_bool (asciiB_yes s fun j hj=>HA.out j hj (by omega)).symm,rfl⟩
def runeOk(r:Int):Prop:=0≤r∧r≤1114111∧(r<55296∨57343<r)
theorem specL1IsRune_yes(r:Int)(w:World)(h:runeOk r):
  Calls Tryz.prog 126 #[.int .i64 r] w fun e w'=>e=.returned (.bool true)∧w=w':=by
 obtain ⟨h0,h1,h2⟩:=h
 have H2:Hid (r<55296∨57343<r):=h2
 clear h2
 go_enter Tryz.func126,Tryz.ntmps126
 go_wp2_with fail
 refine (specL1In_yes r 0 1114111 _ h0 h1).mono ?_
 rintro e w' ⟨rfl,rfl⟩
 go_wp2_with fail
 refine (specL1In_no r 55296 57343 _ H2.out).mono ?_
 rintro e w' ⟨rfl,rfl⟩
 go_wp2
 go_ret
 exact ⟨rfl,rfl⟩
theorem specL1IsRune_no(r:Int)(w:World)(h: ¬runeOk r):
  Calls Tryz.prog 126 #[.int .i64 r] w fun e w'=>e=.returned (.bool false)∧w=w':=by
 unfold runeOk at h
 by_cases a:0≤r∧r≤1114111
 ·obtain ⟨h0,h1⟩:=a
  have h2:55296≤r∧r≤57343:=by omega
  clear h
  go_enter Tryz.func126,Tryz.ntmps126
  go_wp2_with fail
  refine (specL1In_yes r 0 1114111 _ h0 h1).mono ?_
  rintro e w' ⟨rfl,rfl⟩
  go_wp2_with fail
  refine (specL1In_yes r 55296 57343 _ h2.1 h2.2).mono ?_
  rintro e w' ⟨rfl,rfl⟩
  go_wp2
  go_ret
  exact ⟨rfl,rfl⟩
 have H:Hid (r<0∨1114111<r):=by show _∨_;omega
 clear h a
 go_enter Tryz.func126,Tryz.ntmps126
 go_wp2_with fail
 refine (specL1In_no r 0 1114111 _ H.out).mono ?_
 rintro e w' ⟨rfl,rfl⟩
 go_wp2
 go_ret
 exact ⟨rfl,rfl⟩

def encAll(l:List Int):List UInt8:=l.flatMap Lib.encodeRune
theorem encAll_snoc(l:List Int)(r:Int):encAll (l++[r])=encAll l++Lib.encodeRune r:=by simp[encAll]
def allOk(l:List Int):Prop:= ∀r∈l,runeOk r
end Go.Proofs.YtijliddchoehhaaGreatDoor
namespace Go.Proofs.YtijliddchoehhaaGreatDoor
abbrev okAt(s:ByteArray)(p:Nat):Prop:= ¬((Utf8.decode s p).1=65533∧(Utf8.decode s p).2=1)
def runeAt(s:ByteArray)(p:Nat):Int×Int:=if okAt s p then ((Utf8.decode s p).1,(Utf8.decode s p).2)else (0,0)
def bt(s:ByteArray)(p:Nat):Nat:=(s.get! p).toNat
theorem bt_at(s:ByteArray)(p:Nat)(h:p<s.size):bt s p=s[p].toNat:=by
 unfold bt
 have:=get_at s p h
 simp only[Nat.add_zero]at this
 rw[this]
theorem bt_lt(s:ByteArray)(p:Nat):bt s p<256:=(s.get! p).toNat_lt
theorem runeAt_ok{s:ByteArray}{p c n:Nat}(h:Utf8.decode s p=(c,n))(h': ¬(c=65533∧n=1)):runeAt s p=((c:Int),(n:Int)):=by
 unfold runeAt
 rw[if_pos (show okAt s p by unfold okAt;rw[h];exact h'),h]
theorem runeAt_bad{s:ByteArray}{p:Nat}(h:Utf8.decode s p=(65533,1)):runeAt s p=(0,0):=by
 unfold runeAt
 rw[if_neg (by unfold okAt;rw[h];simp)]
theorem rune1(s:ByteArray)(p:Nat)(h:bt s p<128):runeAt s p=((bt s p:Int),1):=by
 refine runeAt_ok (c:=bt s p) (n:=1) ?_ (by omega)
 rw[Lib.decode_at]
 unfold bt at h
 unfold Lib.decodeN bt
 rw[if_pos h]
theorem rune0(s:ByteArray)(p:Nat)(h:128≤bt s p)(h2: ¬(194≤bt s p∧bt s p≤244)):runeAt s p=(0,0):=by
 refine runeAt_bad ?_
 have hl:=bt_lt s p
 have l1:=bt_lt s (p+1);have l2:=bt_lt s (p+2);have l3:=bt_lt s (p+3)
 rw[Lib.decode_at]
 unfold bt at h h2 hl l1 l2 l3
 unfold Lib.decodeN
 generalize (s.get! p).toNat=b0 at*
 generalize (s.get! (p+1)).toNat=b1 at*
 generalize (s.get! (p+2)).toNat=b2 at*
 generalize (s.get! (p+3)).toNat=b3 at*
 rw[if_neg (by omega)]
 split
 ·rw[if_neg (by omega)]
 rw[if_neg (by omega)]
 split
 ·rw[if_neg (by omega)]
 rfl
theorem rune2_bad(s:ByteArray)(p:Nat)(h:194≤bt s p∧bt s p≤223)(hb: ¬(p+1<s.size∧128≤bt s (p+1)∧bt s (p+1)≤191)):runeAt s p=(0,0):=by
 refine runeAt_bad ?_
 have l1:=bt_lt s (p+1)
 rw[Lib.decode_at]
 unfold bt at h hb l1
 unfold Lib.decodeN
 generalize (s.get! p).toNat=b0 at*
 generalize (s.get! (p+1)).toNat=b1 at*
 generalize (s.get! (p+2)).toNat=b2 at*
 generalize (s.get! (p+3)).toNat=b3 at*
 rw[if_neg (by omega),if_neg (by omega),if_neg (by omega),if_neg (by omega)]
theorem rune2(s:ByteArray)(p:Nat)(h:194≤bt s p∧bt s p≤223)(hb:p+1<s.size∧128≤bt s (p+1)∧bt s (p+1)≤191):
  runeAt s p=((bt s p:Int)%32*64+(bt s (p+1):Int)%64,2):=by
 have e:Utf8.decode s p=(bt s p%32*64+bt s (p+1)%64,2):=by
  rw[Lib.decode_at]
  unfold bt at h hb⊢
  unfold Lib.decodeN
  generalize (s.get! p).toNat=b0 at*
  generalize (s.get! (p+1)).toNat=b1 at*
  generalize (s.get! (p+2)).toNat=b2 at*
  generalize (s.get! (p+3)).toNat=b3 at*
  rw[if_neg (by omega),if_pos (by omega),if_pos (by omega)]
 rw[runeAt_ok e (by omega)]
 simp
theorem rune3_bad(s:ByteArray)(p:Nat)(h:224≤bt s p∧bt s p≤239)(hb: ¬(p+1<s.size∧128≤bt s (p+1)∧bt s (p+1)≤191∧p+2<s.size∧128≤bt s (p+2)∧bt s (p+2)≤191)):runeAt s p=(0,0):=by
 refine runeAt_bad ?_
 have l1:=bt_lt s (p+1);have l2:=bt_lt s (p+2)
 rw[Lib.decode_at]
 unfold bt at h hb l1 l2
 unfold Lib.decodeN
 generalize (s.get! p).toNat=b0 at*
 generalize (s.get! (p+1)).toNat=b1 at*
 generalize (s.get! (p+2)).toNat=b2 at*
 generalize (s.get! (p+3)).toNat=b3 at*
 rw[if_neg (by omega),if_neg (by omega),if_neg (by omega),if_neg (by omega)]
theorem rune3(s:ByteArray)(p:Nat)(r:Int)(h:224≤bt s p∧bt s p≤239)(hb:p+1<s.size∧128≤bt s (p+1)∧bt s (p+1)≤191∧p+2<s.size∧128≤bt s (p+2)∧bt s (p+2)≤191)
  (hr:r=(bt s p:Int)%16*4096+(bt s (p+1):Int)%64*64+(bt s (p+2):Int)%64):
  runeAt s p=if r<2048∨ ¬(r<55296∨57343<r)then (0,0)else (r,3):=by
 have e:Utf8.decode s p=if bt s p%16*4096+bt s (p+1)%64*64+bt s (p+2)%64≥2048∧(bt s p%16*4096+bt s (p+1)%64*64+bt s (p+2)%64<55296∨57344≤bt s p%16*4096+bt s (p+1)%64*64+bt s (p+2)%64)then (bt s p%16*4096+bt s (p+1)%64*64+bt s (p+2)%64,3)else (65533,1):=by
  rw[Lib.decode_at]
  unfold bt at h hb⊢
  unfold Lib.decodeN
  generalize (s.get! p).toNat=b0 at*
  generalize (s.get! (p+1)).toNat=b1 at*
  generalize (s.get! (p+2)).toNat=b2 at*
  generalize (s.get! (p+3)).toNat=b3 at*
  rw[if_neg (by omega),if_neg (by omega),if_pos (by omega)]
  by_cases hx:b0%16*4096+b1%64*64+b2%64≥2048∧(b0%16*4096+b1%64*64+b2%64<55296∨57344≤b0%16*4096+b1%64*64+b2%64)
  ·rw[if_pos hx,if_pos (by omega)]
  rw[if_neg hx,if_neg (by omega)]
 generalize hc:bt s p%16*4096+bt s (p+1)%64*64+bt s (p+2)%64=c at e
 have hrc:r=(c:Int):=by omega
 by_cases hx:c≥2048∧(c<55296∨57344≤c)
 ·rw[if_pos hx]at e
  rw[runeAt_ok e (by omega),if_neg (by omega),hrc]
  rfl
 rw[if_neg hx]at e
 rw[runeAt_bad e,if_pos (by omega)]
theorem rune4_bad(s:ByteArray)(p:Nat)(h:240≤bt s p∧bt s p≤244)(hb: ¬(p+1<s.size∧128≤bt s (p+1)∧bt s (p+1)≤191∧p+2<s.size∧128≤bt s (p+2)∧bt s (p+2)≤191∧p+3<s.size∧128≤bt s (p+3)∧bt s (p+3)≤191)):runeAt s p=(0,0):=by
 refine runeAt_bad ?_
 have l1:=bt_lt s (p+1);have l2:=bt_lt s (p+2);have l3:=bt_lt s (p+3)
 rw[Lib.decode_at]
 unfold bt at h hb l1 l2 l3
 unfold Lib.decodeN
 generalize (s.get! p).toNat=b0 at*
 generalize (s.get! (p+1)).toNat=b1 at*
 generalize (s.get! (p+2)).toNat=b2 at*
 generalize (s.get! (p+3)).toNat=b3 at*
 rw[if_neg (by omega),if_neg (by omega),if_neg (by omega),if_neg (by omega)]
theorem rune4(s:ByteArray)(p:Nat)(r:Int)(h:240≤bt s p∧bt s p≤244)(hb:p+1<s.size∧128≤bt s (p+1)∧bt s (p+1)≤191∧p+2<s.size∧128≤bt s (p+2)∧bt s (p+2)≤191∧p+3<s.size∧128≤bt s (p+3)∧bt s (p+3)≤191)
  (hr:r=(bt s p:Int)%8*262144+(bt s (p+1):Int)%64*4096+(bt s (p+2):Int)%64*64+(bt s (p+3):Int)%64):
  runeAt s p=if r<65536∨ ¬r≤1114111 then (0,0)else (r,4):=by
 have e:Utf8.decode s p=if bt s p%8*262144+bt s (p+1)%64*4096+bt s (p+2)%64*64+bt s (p+3)%64≥65536∧bt s p%8*262144+bt s (p+1)%64*4096+bt s (p+2)%64*64+bt s (p+3)%64≤1114111 then (bt s p%8*262144+bt s (p+1)%64*4096+bt s (p+2)%64*64+bt s (p+3)%64,4)else (65533,1):=by
  rw[Lib.decode_at]
  unfold bt at h hb⊢
  unfold Lib.decodeN
  generalize (s.get! p).toNat=b0 at*
  generalize (s.get! (p+1)).toNat=b1 at*
  generalize (s.get! (p+2)).toNat=b2 at*
  generalize (s.get! (p+3)).toNat=b3 at*
  rw[if_neg (by omega),if_neg (by omega),if_neg (by omega),if_pos (by omega)]
  by_cases hx:b0%8*262144+b1%64*4096+b2%64*64+b3%64≥65536∧b0%8*262144+b1%64*4096+b2%64*64+b3%64≤1114111
  ·rw[if_pos hx,if_pos (by omega)]
  rw[if_neg hx,if_neg (by omega)]
 generalize hc:bt s p%8*262144+bt s (p+1)%64*4096+bt s (p+2)%64*64+bt s (p+3)%64=c at e
 have hrc:r=(c:Int):=by omega
 by_cases hx:c≥65536∧c≤1114111
 ·rw[if_pos hx]at e
  rw[runeAt_ok e (by omega),if_neg (by omega),hrc]
  rfl
 rw[if_neg hx]at e
 rw[runeAt_bad e,if_pos (by omega)]
def stR(s:ByteArray):Nat→Nat×List Int
 |0=>(0,[])
 |k+1=>if (stR s k).1<s.size∧okAt s (stR s k).1 then ((stR s k).1+(Utf8.decode s (stR s k).1).2,(stR s k).2++[((Utf8.decode s (stR s k).1).1:Int)])else stR s k
def stuckR(s:ByteArray)(k:Nat):Prop:= ¬((stR s k).1<s.size∧okAt s (stR s k).1)
theorem stR_step(s:ByteArray)(k:Nat)(h1:(stR s k).1<s.size)(h2:okAt s (stR s k).1):stR s (k+1)=((stR s k).1+(Utf8.decode s (stR s k).1).2,(stR s k).2++[((Utf8.decode s (stR s k).1).1:Int)]):=by
 rw[stR,if_pos ⟨h1,h2⟩]
theorem stR_stuck(s:ByteArray)(k:Nat)(h:stuckR s k): ∀j,stR s (k+j)=stR s k∧stuckR s (k+j)
 |0=>⟨rfl,h⟩
 |j+1=>by
  obtain ⟨e,g⟩:=stR_stuck s k h j
  have e':stR s (k+(j+1))=stR s k:=by
   rw[←Nat.add_assoc,stR,if_neg g,e]
  refine ⟨e',?_⟩
  unfold stuckR at h⊢
  rw[e'];exact h
theorem stR_ge(s:ByteArray)(k:Nat):stuckR s k∨k≤(stR s k).1:=by
 induction k with
 |zero=>exact .inr (Nat.zero_le _)
 |succ k ih=>
  rcases ih with h|h
  ·exact .inl (stR_stuck s k h 1).2
  by_cases g:(stR s k).1<s.size∧okAt s (stR s k).1
  ·refine .inr ?_
   rw[stR_step s k g.1 g.2]
   have:=Lib.decode_width_pos s (stR s k).1 g.1
   simp only
   omega
  exact .inl (stR_stuck s k g 1).2
def finR(s:ByteArray):Nat×List Int:=stR s s.size
theorem finR_stuck(s:ByteArray):stuckR s s.size:=by
 rcases stR_ge s s.size with h|h
 ·exact h
 unfold stuckR;omega
theorem stR_fin(s:ByteArray)(k:Nat)(h:stuckR s k):stR s k=finR s:=by
 unfold finR
 rcases Nat.le_total k s.size with g|g
 ·have:=(stR_stuck s k h (s.size-k)).1
  rw[show k+(s.size-k)=s.size by omega]at this
  exact this.symm
 have:=(stR_stuck s s.size (finR_stuck s) (k-s.size)).1
 rw[show s.size+(k-s.size)=k by omega]at this
 exact this
theorem stR_len(s:ByteArray)(k:Nat):(stR s k).2.length≤k:=by
 induction k with
 |zero=>simp[stR]
 |succ k ih=>
  rw[stR]
  split
  ·simp;omega
  omega
theorem stR_len'(s:ByteArray)(k:Nat):(stR s k).2.length≤(stR s k).1:=by
 induction k with
 |zero=>simp[stR]
 |succ k ih=>
  rw[stR]
  split
  ·rename_i g
   have:=Lib.decode_width_pos s (stR s k).1 g.1
   simp;omega
  exact ih
theorem stR_le(s:ByteArray)(k:Nat):(stR s k).1≤s.size:=by
 induction k with
 |zero=>simp[stR]
 |succ k ih=>
  rw[stR]
  split
  ·rename_i g
   have hne:s.data.toList.drop (stR s k).1≠[]:=by
    intro e
    have:=congrArg List.length e
    simp at this
    omega
   have:=Lib.decodeL_le (s.data.toList.drop (stR s k).1) hne
   rw[Lib.decodeL_drop]at this
   simp at this⊢
   omega
  exact ih
theorem valid_at(s:ByteArray)(k:Nat):Lib.validD (s.data.toList.drop (stR s k).1)=Lib.validD s.data.toList:=by
 induction k with
 |zero=>simp[stR]
 |succ k ih=>
  rw[stR]
  split
  ·rename_i g
   have hne:s.data.toList.drop (stR s k).1≠[]:=by
    intro e
    have:=congrArg List.length e
    simp at this
    omega
   rw[←ih,Lib.validD_step _ hne,Lib.decodeL_drop,if_neg g.2,List.drop_drop]
  exact ih
theorem valid_iff(s:ByteArray):Lib.validD s.data.toList=true↔(finR s).1=s.size:=by
 have h:=valid_at s s.size
 have hs:=finR_stuck s
 have hle:=stR_le s s.size
 unfold finR stuckR at*
 rw[←h]
 constructor
 ·intro hv
  by_cases e:(stR s s.size).1=s.size
  ·exact e
  have hlt:(stR s s.size).1<s.size:=by omega
  have hb: ¬okAt s (stR s s.size).1:=fun g=>hs ⟨hlt,g⟩
  have hne:s.data.toList.drop (stR s s.size).1≠[]:=by
   intro e
   have:=congrArg List.length e
   simp at this
   omega
  rw[Lib.validD_step _ hne,Lib.decodeL_drop,if_pos (Classical.not_not.1 hb)]at hv
  cases hv
 intro e
 rw[List.drop_eq_nil_of_le (by simp;omega)]
 rfl
theorem valid_ok(s:ByteArray)(h:Lib.validD s.data.toList=true)(k:Nat)(hk:(stR s k).1<s.size):okAt s (stR s k).1:=by
 by_cases g:okAt s (stR s k).1
 ·exact g
 exfalso
 have hst:stuckR s k:=fun x=>g x.2
 have e:=stR_fin s k hst
 have:=(valid_iff s).1 h
 rw[←e]at this
 omega
theorem decode_runeOk(s:ByteArray)(p:Nat)(h:okAt s p):runeOk ((Utf8.decode s p).1:Int):=by
 unfold okAt at h
 rw[Lib.decode_at]at h⊢
 generalize (s.get! p).toNat=b0 at*
 generalize (s.get! (p+1)).toNat=b1 at*
 generalize (s.get! (p+2)).toNat=b2 at*
 generalize (s.get! (p+3)).toNat=b3 at*
 unfold runeOk
 rcases Lib.decodeN_shape (s.size-p) b0 b1 b2 b3 with ⟨c,e⟩|⟨c1,c2,c3,cv,e⟩|⟨c1,c2,c3,c4,cv,cs,e⟩|⟨c1,c2,c3,c4,c5,cv,cs,e⟩|e
 ·rw[e];simp only;omega
 ·rw[e];simp only;omega
 ·rw[e];simp only;omega
 ·rw[e];simp only;omega
 rw[e]at h;simp at h
theorem stR_back(s:ByteArray)(k:Nat):allOk (stR s k).2∧encAll (stR s k).2=s.data.toList.take (stR s k).1:=by
 induction k with
 |zero=>exact ⟨fun r hr=>by simp[stR]at hr,by simp[stR,encAll]⟩
 |succ k ih=>
  obtain ⟨i1,i2⟩:=ih
  rw[stR]
  split
  ·rename_i g
   refine ⟨fun r hr=> ?_,?_⟩
   ·rcases List.mem_append.1 hr with hr|hr
    ·exact i1 r hr
    rw[List.mem_singleton.1 hr];exact decode_runeOk s _ g.2
   have hne:s.data.toList.drop (stR s k).1≠[]:=by
    intro e
    have:=congrArg List.length e
    simp at this
    omega
   have hd:=Lib.encode_decode (s.data.toList.drop (stR s k).1) hne (by rw[Lib.decodeL_drop];exact g.2)
   rw[Lib.decodeL_drop]at hd
   simp only
   rw[encAll_snoc,i2,hd,List.take_add]
  exact ⟨i1,i2⟩
theorem fin_back(s:ByteArray)(h:(finR s).1=s.size):allOk (finR s).2∧encAll (finR s).2=s.data.toList:=by
 obtain ⟨a,b⟩:=stR_back s s.size
 unfold finR at h⊢
 refine ⟨a,?_⟩
 rw[b,h,take_all s _ (Nat.le_refl _)]
end Go.Proofs.YtijliddchoehhaaGreatDoor
