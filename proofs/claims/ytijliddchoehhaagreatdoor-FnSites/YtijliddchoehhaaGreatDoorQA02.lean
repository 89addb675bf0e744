/- PctPlain, HexWalk, SplPlain, NumWalk, CloneWalk, FieldsWalk, ExtPlain. -/
import Derived.Test.YtijliddchoehhaaGreatDoorQA01
import Derived.BigQuiet
set_option maxHeartbeats 1000000
namespace Go.Proofs.YtijliddchoehhaaGreatDoor
open Go.RowKit
def hexN(c:Nat):Int:=if 48≤c∧c≤57 then (c:Int)-48 else if 97≤c∧c≤102 then (c:Int)-87 else if 65≤c∧c≤70 then (c:Int)-55 else-1
def pctV(a b c:Nat):Int:=if a=37∧0≤hexN b∧0≤hexN c then hexN b*16+hexN c else-1
def pctHd:List UInt8→Int
 |a::b::c::_=>pctV a.toNat b.toNat c.toNat
 |_=> -1
theorem hexN_le(c:Nat): -1≤hexN c∧hexN c≤15:=by
 unfold hexN
 split
 ·omega
 split
 ·omega
 split<;>omega
theorem pctV_le(a b c:Nat): -1≤pctV a b c∧pctV a b c≤255:=by
 have h1:=hexN_le b
 have h2:=hexN_le c
 unfold pctV
 split<;>omega
def tokL{α:Type}(f g:UInt8→List α):List UInt8→List α
 |a::b::c::r=>if 0≤pctV a.toNat b.toNat c.toNat then f (UInt8.ofNat (pctV a.toNat b.toNat c.toNat).toNat)++tokL f g r else g a++tokL f g (b::c::r)
 |[a,b]=>g a++g b
 |[a]=>g a
 |[]=>[]
theorem tok_pct{α:Type}(f g:UInt8→List α)(a b c:UInt8)(r:List UInt8)(h:0≤pctV a.toNat b.toNat c.toNat):
  tokL f g (a::b::c::r)=f (UInt8.ofNat (pctV a.toNat b.toNat c.toNat).toNat)++tokL f g r:=by
 rw[tokL,if_pos h]
theorem tok_byte{α:Type}(f g:UInt8→List α)(a:UInt8)(r:List UInt8)(h:pctHd (a::r)<0):tokL f g (a::r)=g a++tokL f g r:=by
 match r,h with
 |[],_=>simp[tokL]
 |[b],_=>simp[tokL]
 |b::c::r,h=>
  have h': ¬0≤pctV a.toNat b.toNat c.toNat:=by have h2:pctV a.toNat b.toNat c.toNat<0:=h;omega
  rw[tokL,if_neg h']
theorem hd_no(a:UInt8)(r:List UInt8)(h:a.toNat≠37):pctHd (a::r)<0:=by
 match r with
 |[]=>simp[pctHd]
 |[b]=>simp[pctHd]
 |b::c::r=>simp[pctHd,pctV,h]
theorem tok_ind(P:List UInt8→Prop)(h0:P [])(h1: ∀a b c r,0≤pctV a.toNat b.toNat c.toNat→P r→P (a::b::c::r))(h2: ∀a r,pctHd (a::r)<0→P r→P (a::r)): ∀l,P l
 |[]=>h0
 |[a]=>h2 a [] (by simp[pctHd]) h0
 |[a,b]=>h2 a [b] (by simp[pctHd]) (h2 b [] (by simp[pctHd]) h0)
 |a::b::c::r=>
  if h:0≤pctV a.toNat b.toNat c.toNat then h1 a b c r h (tok_ind P h0 h1 h2 r)
  else h2 a (b::c::r) (by show pctV a.toNat b.toNat c.toNat<0;omega) (tok_ind P h0 h1 h2 (b::c::r))
def unL:List UInt8→List UInt8:=tokL (fun c=>[c]) (fun a=>[a])
theorem un_pct(a b c:UInt8)(r:List UInt8)(h:0≤pctV a.toNat b.toNat c.toNat):unL (a::b::c::r)=UInt8.ofNat (pctV a.toNat b.toNat c.toNat).toNat::unL r:=tok_pct _ _ a b c r h
theorem un_byte(a:UInt8)(r:List UInt8)(h:pctHd (a::r)<0):unL (a::r)=a::unL r:=tok_byte _ _ a r h
theorem un_len(l:List UInt8):(unL l).length≤l.length:=by
 induction l using tok_ind with
 |h0=>simp[unL,tokL]
 |h1 a b c r h ih=>rw[un_pct a b c r h];simp only[List.length_cons];omega
 |h2 a r h ih=>rw[un_byte a r h];simp only[List.length_cons];omega
def pctAt(s:ByteArray)(k:Nat):Int:=pctHd (s.data.toList.drop k)
theorem drop_at(s:ByteArray)(k:Nat)(h:k<s.size):s.data.toList.drop k=s[k]::s.data.toList.drop (k+1):=by
 have hk:k<s.data.toList.length:=by simpa using h
 rw[List.drop_eq_getElem_cons hk]
 rfl
theorem pctAt_in(s:ByteArray)(k:Nat)(h:k+2<s.size):pctAt s k=pctV s[k].toNat s[k+1].toNat s[k+2].toNat:=by
 unfold pctAt
 rw[drop_at s k (by omega),drop_at s (k+1) (by omega),drop_at s (k+2) (by omega)]
 rfl
theorem pctAt_out(s:ByteArray)(k:Nat)(h:s.size≤k+2):pctAt s k= -1:=by
 unfold pctAt
 have hl:(s.data.toList.drop k).length≤2:=by
  rw[List.length_drop]
  have:s.data.toList.length=s.size:=by simp
  omega
 match s.data.toList.drop k,hl with
 |[],_=>rfl
 |[_],_=>rfl
 |[_,_],_=>rfl
theorem pctAt_le(s:ByteArray)(k:Nat): -1≤pctAt s k∧pctAt s k≤255:=by
 by_cases h:k+2<s.size
 ·rw[pctAt_in s k h];exact pctV_le _ _ _
 rw[pctAt_out s k (by omega)];omega
theorem pctAt_lt{s:ByteArray}{k:Nat}(h:0≤pctAt s k):k+2<s.size:=by
 rcases Nat.lt_or_ge (k+2) s.size with h1|h1
 ·exact h1
 rw[pctAt_out s k h1]at h;omega
theorem tok_hit{α:Type}(f g:UInt8→List α)(s:ByteArray)(k:Nat)(h:0≤pctAt s k):tokL f g (s.data.toList.drop k)=f (UInt8.ofNat (pctAt s k).toNat)++tokL f g (s.data.toList.drop (k+3)):=by
 have hk:=pctAt_lt h
 rw[pctAt_in s k hk]at h⊢
 rw[drop_at s k (by omega),drop_at s (k+1) (by omega),drop_at s (k+2) (by omega)]
 exact tok_pct f g _ _ _ _ h
theorem tok_miss{α:Type}(f g:UInt8→List α)(s:ByteArray)(k:Nat)(hk:k<s.size)(h:pctAt s k<0):tokL f g (s.data.toList.drop k)=g s[k]++tokL f g (s.data.toList.drop (k+1)):=by
 unfold pctAt at h
 rw[drop_at s k hk]at h⊢
 exact tok_byte f g _ _ h
theorem tok_end{α:Type}(f g:UInt8→List α)(s:ByteArray)(k:Nat)(hk:s.size≤k):tokL f g (s.data.toList.drop k)=[]:=by
 rw[List.drop_of_length_le (by simpa using hk)]
 rfl
theorem specL1In(x a b:Int)(w:World):
  Calls Tryz.prog 59 #[.int .i64 x,.int .i64 a,.int .i64 b] w fun e w'=>e=.returned (.bool (decide (a≤x∧x≤b)))∧w=w':=by
 by_cases h:a≤x∧x≤b
 ·rw[decide_eq_true h];exact specL1In_yes x a b w h.1 h.2
 rw[decide_eq_false h];exact specL1In_no x a b w (by omega)
theorem hexN_09{c:Nat}(h1:48≤(c:Int))(h2:(c:Int)≤57):hexN c=(c:Int)-48:=by unfold hexN;rw[if_pos (by omega)]
theorem hexN_az{c:Nat}(h1:97≤(c:Int))(h2:(c:Int)≤102):hexN c=(c:Int)-87:=by unfold hexN;rw[if_neg (by omega),if_pos (by omega)]
theorem hexN_AZ{c:Nat}(h1:65≤(c:Int))(h2:(c:Int)≤70):hexN c=(c:Int)-55:=by unfold hexN;rw[if_neg (by omega),if_neg (by omega),if_pos (by omega)]
theorem hexN_no{c:Nat}(h1: ¬(48≤(c:Int)∧(c:Int)≤57))(h2: ¬(97≤(c:Int)∧(c:Int)≤102))(h3: ¬(65≤(c:Int)∧(c:Int)≤70)):hexN c= -1:=by unfold hexN;rw[if_neg (by omega),if_neg (by omega),if_neg (by omega)]
theorem implIsDigit(c:Nat)(w:World)(hc:c≤255):
  Calls Tryz.prog 142 #[.int .u8 (c:Int)] w fun e w'=>e=.returned (.bool (decide (48≤(c:Int)∧(c:Int)≤57)))∧w=w':=by
 by_cases h1:48≤(c:Int)
 ·go_enter Tryz.func142,Tryz.ntmps142
  go_wp2
  go_ret
  exact ⟨ret_bool (by simp[h1]<;>omega),rfl⟩
 go_enter Tryz.func142,Tryz.ntmps142
 go_wp2
 go_ret
 exact ⟨ret_bool (by simp<;>omega),rfl⟩
theorem implHex(c:Nat)(w:World)(hc:c≤255):
  Calls Tryz.prog 194 #[.int .u8 (c:Int)] w fun e w'=>e=.returned (.int .i64 (hexN c))∧w=w':=by
 by_cases h1:48≤(c:Int)∧(c:Int)≤57
 ·obtain ⟨a1,a2⟩:=h1
  go_enter Tryz.func194,Tryz.ntmps194
  go_wp2_with fail
  refine (implIsDigit c _ hc).mono ?_
  rintro e w' ⟨rfl,rfl⟩
  rw[decide_eq_true (show 48≤(c:Int)∧(c:Int)≤57 from ⟨a1,a2⟩)]
  go_wp2
  go_ret
  exact ⟨ret_int (by rw[hexN_09 a1 a2]),rfl⟩
 by_cases h2:97≤(c:Int)∧(c:Int)≤102
 ·obtain ⟨a1,a2⟩:=h2
  have H1:Hid (¬(48≤(c:Int)∧(c:Int)≤57)):=h1
  clear h1
  go_enter Tryz.func194,Tryz.ntmps194
  go_wp2_with fail
  refine (implIsDigit c _ hc).mono ?_
  rintro e w' ⟨rfl,rfl⟩
  rw[decide_eq_false H1.out]
  go_wp2
  go_ret
  exact ⟨ret_int (by rw[hexN_az a1 a2]<;>omega),rfl⟩
 by_cases h3:65≤(c:Int)∧(c:Int)≤70
 ·obtain ⟨a1,a2⟩:=h3
  have H1:Hid (¬(48≤(c:Int)∧(c:Int)≤57)):=h1
  clear h1 h2
  have h4: ¬97≤(c:Int):=by omega
  go_enter Tryz.func194,Tryz.ntmps194
  go_wp2_with fail
  refine (implIsDigit c _ hc).mono ?_
  rintro e w' ⟨rfl,rfl⟩
  rw[decide_eq_false H1.out]
  go_wp2
  go_ret
  exact ⟨ret_int (by rw[hexN_AZ a1 a2]<;>omega),rfl⟩
 have H1:Hid (¬(48≤(c:Int)∧(c:Int)≤57)):=h1
 have H0:Hid (hexN c= -1):=hexN_no h1 h2 h3
 clear h1
 rcases Int.lt_or_le (c:Int) 97 with h4|h4
 ·rcases Int.lt_or_le (c:Int) 65 with h5|h5
  ·clear h2 h3
   go_enter Tryz.func194,Tryz.ntmps194
   go_wp2_with fail
   refine (implIsDigit c _ hc).mono ?_
   rintro e w' ⟨rfl,rfl⟩
   rw[decide_eq_false H1.out]
   go_wp2
   go_ret
   exact ⟨ret_int (by rw[H0.out]),rfl⟩
  have h6: ¬(c:Int)≤70:=by omega
  clear h2 h3
  go_enter Tryz.func194,Tryz.ntmps194
  go_wp2_with fail
  refine (implIsDigit c _ hc).mono ?_
  rintro e w' ⟨rfl,rfl⟩
  rw[decide_eq_false H1.out]
  go_wp2
  go_ret
  exact ⟨ret_int (by rw[H0.out]),rfl⟩
 have h6: ¬(c:Int)≤102:=by omega
 have h7: ¬(c:Int)≤70:=by omega
 have h8:65≤(c:Int):=by omega
 clear h2 h3
 go_enter Tryz.func194,Tryz.ntmps194
 go_wp2_with fail
 refine (implIsDigit c _ hc).mono ?_
 rintro e w' ⟨rfl,rfl⟩
 rw[decide_eq_false H1.out]
 go_wp2
 go_ret
 exact ⟨ret_int (by rw[H0.out]),rfl⟩
theorem specHex(c:Nat)(w:World)(hc:(c:Int)≤255):
  Calls Tryz.prog 113 #[.int .u8 (c:Int)] w fun e w'=>e=.returned (.int .i64 (hexN c))∧w=w':=by
 by_cases h1:48≤(c:Int)∧(c:Int)≤57
 ·obtain ⟨a1,a2⟩:=h1
  go_enter Tryz.func113,Tryz.ntmps113
  go_wp2_with (go_at_call 59;refine (specL1In_yes _ _ _ _ a1 a2).mono ?_;rintro e w' ⟨rfl,rfl⟩)
  go_ret
  exact ⟨ret_int (by rw[hexN_09 a1 a2]),rfl⟩
 have g1:(c:Int)<48∨57<(c:Int):=by omega
 by_cases h2:97≤(c:Int)∧(c:Int)≤102
 ·obtain ⟨a1,a2⟩:=h2
  clear h1
  have H1:Hid ((c:Int)<48∨57<(c:Int)):=g1
  clear g1
  go_enter Tryz.func113,Tryz.ntmps113
  go_wp2_with fail
  refine (specL1In_no _ _ _ _ H1.out).mono ?_
  rintro e w' ⟨rfl,rfl⟩
  go_wp2_with fail
  refine (specL1In_yes _ _ _ _ a1 a2).mono ?_
  rintro e w' ⟨rfl,rfl⟩
  go_wp2
  go_ret
  exact ⟨ret_int (by rw[hexN_az a1 a2]<;>omega),rfl⟩
 have g2:(c:Int)<97∨102<(c:Int):=by omega
 have H1:Hid ((c:Int)<48∨57<(c:Int)):=g1
 have H2:Hid ((c:Int)<97∨102<(c:Int)):=g2
 by_cases h3:65≤(c:Int)∧(c:Int)≤70
 ·obtain ⟨a1,a2⟩:=h3
  clear h1 h2 g1 g2
  go_enter Tryz.func113,Tryz.ntmps113
  go_wp2_with fail
  refine (specL1In_no _ _ _ _ H1.out).mono ?_
  rintro e w' ⟨rfl,rfl⟩
  go_wp2_with fail
  refine (specL1In_no _ _ _ _ H2.out).mono ?_
  rintro e w' ⟨rfl,rfl⟩
  go_wp2_with fail
  refine (specL1In_yes _ _ _ _ a1 a2).mono ?_
  rintro e w' ⟨rfl,rfl⟩
  go_wp2
  go_ret
  exact ⟨ret_int (by rw[hexN_AZ a1 a2]<;>omega),rfl⟩
 have H0:Hid (hexN c= -1):=hexN_no h1 h2 h3
 have H3:Hid ((c:Int)<65∨70<(c:Int)):=by show _∨_;omega
 clear h1 h2 h3 g1 g2
 go_enter Tryz.func113,Tryz.ntmps113
 go_wp2_with fail
 refine (specL1In_no _ _ _ _ H1.out).mono ?_
 rintro e w' ⟨rfl,rfl⟩
 go_wp2_with fail
 refine (specL1In_no _ _ _ _ H2.out).mono ?_
 rintro e w' ⟨rfl,rfl⟩
 go_wp2_with fail
 refine (specL1In_no _ _ _ _ H3.out).mono ?_
 rintro e w' ⟨rfl,rfl⟩
 go_wp2
 go_ret
 exact ⟨ret_int (by rw[H0.out]),rfl⟩
def spl(b:UInt8):List UInt8→List (List UInt8)
 |[]=>[[]]
 |c::r=>if c=b then []::spl b r else match spl b r with
  |[]=>[[c]]
  |x::xs=>(c::x)::xs
theorem spl_snoc(b:UInt8): ∀l,∃xs y,spl b l=xs++[y]∧ ∀c,spl b (l++[c])=if c=b then xs++[y,[]]else xs++[y++[c]]
 |[]=>⟨[],[],rfl,fun c=>by
   by_cases h:c=b
   ·simp[spl,h]
   simp[spl,h]⟩
 |d::r=>by
  obtain ⟨xs,y,h1,h2⟩:=spl_snoc b r
  by_cases hd:d=b
  ·refine ⟨[]::xs,y,by simp[spl,hd,h1],fun c=> ?_⟩
   rw[List.cons_append,spl,if_pos hd,h2 c]
   split<;>simp
  cases xs with
  |nil=>
   refine ⟨[],d::y,by simp[spl,hd,h1],fun c=> ?_⟩
   rw[List.cons_append,spl,if_neg hd,h2 c]
   by_cases hc:c=b<;>simp[hc]
  |cons x xs=>
   refine ⟨(d::x)::xs,y,by simp[spl,hd,h1],fun c=> ?_⟩
   rw[List.cons_append,spl,if_neg hd,h2 c]
   by_cases hc:c=b<;>simp[hc]
theorem spl_cut(b:UInt8){l xs:List _}{y:List UInt8}(h:spl b l=xs++[y])(c:UInt8):spl b (l++[c])=if c=b then xs++[y,[]]else xs++[y++[c]]:=by
 obtain ⟨xs',y',h1,h2⟩:=spl_snoc b l
 have e:=h.symm.trans h1
 obtain ⟨e1,e2⟩:=List.append_inj' e rfl
 cases e2
 subst e1
 exact h2 c
theorem spl_none(b:UInt8): ∀{l:List UInt8},(∀c∈l,c≠b)→spl b l=[l]
 |[],_=>rfl
 |c::r,h=>by
  rw[spl,if_neg (h c List.mem_cons_self),spl_none b (fun d hd=>h d (List.mem_cons_of_mem _ hd))]
theorem spl_app(b:UInt8)(m:List UInt8): ∀l,spl b (l++b::m)=spl b l++spl b m
 |[]=>by simp[spl]
 |c::r=>by
  rw[List.cons_append,spl,spl,spl_app b m r]
  split
  ·simp
  obtain ⟨xs,y,h,_⟩:=spl_snoc b r
  rw[h]
  cases xs<;>simp
def jl(b:UInt8):List (List UInt8)→List UInt8
 |[]=>[]
 |[x]=>x
 |x::y::r=>x++b::jl b (y::r)
theorem jl_spl(b:UInt8): ∀l,jl b (spl b l)=l
 |[]=>rfl
 |c::r=>by
  have ih:=jl_spl b r
  obtain ⟨xs,y,h,_⟩:=spl_snoc b r
  by_cases hc:c=b
  ·rw[spl,if_pos hc]
   rw[h]at ih⊢
   cases xs with
   |nil=>simp[jl]at ih⊢;exact ⟨hc.symm,ih⟩
   |cons x xs=>simp[jl]at ih⊢;exact ⟨hc.symm,ih⟩
  rw[spl,if_neg hc]
  rw[h]at ih⊢
  cases xs with
  |nil=>simp[jl]at ih⊢;exact ih
  |cons x xs=>cases xs<;>simp[jl]at ih⊢ <;>exact ih
theorem spl_jl(b:UInt8): ∀{fs:List (List UInt8)},fs≠[]→(∀x∈fs,∀c∈x,c≠b)→spl b (jl b fs)=fs
 |[],h,_=>absurd rfl h
 |[x],_,h=>spl_none b (h x List.mem_cons_self)
 |x::y::r,_,h=>by
  rw[jl,spl_app,spl_none b (h x List.mem_cons_self),spl_jl b (by simp) (fun z hz=>h z (List.mem_cons_of_mem _ hz))]
  rfl
def digF(base:Nat):Nat→List UInt8→Option Nat
 |n,[]=>some n
 |n,c::r=>if 0≤hexN c.toNat∧hexN c.toNat<(base:Int)then digF base (n*base+(hexN c.toNat).toNat) r else none
def numL(base most:Nat)(l:List UInt8):Option Nat:=if l.length≤most then digF base 0 l else none
def dec3(v:Nat):List UInt8:=if v<10 then [UInt8.ofNat (48+v)]else if v<100 then [UInt8.ofNat (48+v/10),UInt8.ofNat (48+v%10)]else [UInt8.ofNat (48+v/100),UInt8.ofNat (48+v/10%10),UInt8.ofNat (48+v%10)]
def str1(l:List UInt8):Option Nat:=if l.isEmpty then none else match numL 10 3 l with
 |none=>none
 |some v=>if 255<v∨1<l.length∧l.head? =some 48 then none else some v
def loose0:List UInt8→Option Nat
 |[]=>numL 8 11 []
 |d::q=>if d=120∨d=88 then numL 16 8 q else numL 8 11 (d::q)
def looseP:List UInt8→Option Nat
 |[]=>none
 |c::r=>if c=48 then loose0 r else numL 10 10 (c::r)
theorem looseP_dec: ∀v,v<256→looseP (dec3 v)=some v:=by decide+kernel
theorem dec3_no: ∀v,v<256→ ∀c∈dec3 v,48≤c.toNat∧c.toNat≤57:=by decide+kernel
theorem dec3_ne: ∀v,v<256→dec3 v≠[]:=by decide+kernel
theorem dec3_len(v:Nat):(dec3 v).length≤3:=by unfold dec3;split;simp;split<;>simp
def dgU(i:Nat):UInt8:=UInt8.ofNat (48+i)
def fitB(l:List UInt8):Bool:=match str1 l with
 |none=>true
 |some v=>decide (v<256)&&decide (l=dec3 v)
theorem fit1: ∀i,i<10→fitB [dgU i]=true:=by decide+kernel
theorem fit2: ∀i,i<10→ ∀j,j<10→fitB [dgU i,dgU j]=true:=by decide+kernel
theorem fit3: ∀i,i<10→ ∀j,j<10→ ∀k,k<10→fitB [dgU i,dgU j,dgU k]=true:=by decide+kernel
theorem hex_ten{c:UInt8}(h:0≤hexN c.toNat∧hexN c.toNat<((10:Nat):Int)): ∃i,i<10∧c=dgU i:=by
 unfold hexN at h
 refine ⟨c.toNat-48,?_,?_⟩
 ·split at h
  ·omega
  split at h
  ·omega
  split at h<;>omega
 unfold dgU
 have:48+(c.toNat-48)=c.toNat:=by
  split at h
  ·omega
  split at h
  ·omega
  split at h<;>omega
 rw[this,UInt8.ofNat_toNat]
theorem digF_all{base:Nat}: ∀{l:List UInt8} {n v:Nat},digF base n l=some v→ ∀c∈l,0≤hexN c.toNat∧hexN c.toNat<(base:Int)
 |[],_,_,_,c,hc=>by simp at hc
 |d::r,n,v,h,c,hc=>by
  rw[digF]at h
  split at h
  ·rename_i hd
   rcases List.mem_cons.1 hc with rfl|hc
   ·exact hd
   exact digF_all h c hc
  cases h
theorem fit_of{l:List UInt8}{v:Nat}(h:str1 l=some v)(hb:fitB l=true):v<256∧l=dec3 v:=by
 unfold fitB at hb
 rw[h]at hb
 simpa using hb
theorem str1_iff{l:List UInt8}{v:Nat}(h:str1 l=some v):v<256∧l=dec3 v:=by
 refine fit_of h ?_
 unfold str1 at h
 split at h
 ·cases h
 rename_i he
 unfold numL at h
 by_cases h3:l.length≤3
 ·rw[if_pos h3]at h
  cases hd:digF 10 0 l with
  |none=>rw[hd]at h;cases h
  |some x=>
   have hall:=digF_all hd
   match l,h3,he,hall with
   |[],_,he,_=>simp at he
   |[a],_,_,hall=>
    obtain ⟨i,hi,rfl⟩:=hex_ten (hall a (by simp))
    exact fit1 i hi
   |[a,b],_,_,hall=>
    obtain ⟨i,hi,rfl⟩:=hex_ten (hall a (by simp))
    obtain ⟨j,hj,rfl⟩:=hex_ten (hall b (by simp))
    exact fit2 i hi j hj
   |[a,b,c],_,_,hall=>
    obtain ⟨i,hi,rfl⟩:=hex_ten (hall a (by simp))
    obtain ⟨j,hj,rfl⟩:=hex_ten (hall b (by simp))
    obtain ⟨k,hk,rfl⟩:=hex_ten (hall c (by simp))
    exact fit3 i hi j hj k hk
   |_::_::_::_::_,h3,_,_=>simp at h3
 rw[if_neg h3]at h
 cases h
def stF:Nat→List (List UInt8)→Option Nat
 |n,[]=>some n
 |n,x::r=>match str1 x with
  |none=>none
  |some v=>stF (n*256+v) r
def p4(l:List UInt8):Option Nat:=if (spl 46 l).length=4 then stF 0 (spl 46 l)else none
def ip4L(n:Nat):List UInt8:=dec3 (n/16777216)++46::(dec3 (n/65536%256)++46::(dec3 (n/256%256)++46::dec3 (n%256)))
theorem ip4_jl(n:Nat):ip4L n=jl 46 [dec3 (n/16777216),dec3 (n/65536%256),dec3 (n/256%256),dec3 (n%256)]:=rfl
theorem dec3_46{v:Nat}(hv:v<256): ∀c∈dec3 v,c≠46:=by
 intro c hc h
 have:=dec3_no v hv c hc
 rw[h]at this
 exact absurd this.1 (by decide)
theorem ip4_spl{n:Nat}(h:n<4294967296):spl 46 (ip4L n)=[dec3 (n/16777216),dec3 (n/65536%256),dec3 (n/256%256),dec3 (n%256)]:=by
 rw[ip4_jl]
 refine spl_jl 46 (by simp) ?_
 intro x hx
 simp only[List.mem_cons,List.not_mem_nil,or_false]at hx
 rcases hx with rfl|rfl|rfl|rfl<;>exact dec3_46 (by omega)
theorem p4_some{l:List UInt8}{n:Nat}(h:p4 l=some n):n<4294967296∧l=ip4L n:=by
 unfold p4 at h
 split at h
 ·rename_i h4
  have hj:=jl_spl 46 l
  generalize spl 46 l=fs at h h4 hj
  match fs,h4 with
  |[a,b,c,d],_=>
   simp only[stF]at h
   cases ha:str1 a with
   |none=>rw[ha]at h;cases h
   |some x=>
    rw[ha]at h
    simp only at h
    cases hb:str1 b with
    |none=>rw[hb]at h;cases h
    |some y=>
     rw[hb]at h
     simp only at h
     cases hc:str1 c with
     |none=>rw[hc]at h;cases h
     |some z=>
      rw[hc]at h
      simp only at h
      cases hd:str1 d with
      |none=>rw[hd]at h;cases h
      |some u=>
       rw[hd]at h
       simp only[Option.some.injEq]at h
       obtain ⟨h1,rfl⟩:=str1_iff ha
       obtain ⟨h2,rfl⟩:=str1_iff hb
       obtain ⟨h3,rfl⟩:=str1_iff hc
       obtain ⟨h5,rfl⟩:=str1_iff hd
       refine ⟨by omega,?_⟩
       rw[←hj,ip4_jl,←h]
       congr 5<;>congr 1<;>omega
 cases h
def loF:Nat→Nat→List (List UInt8)→Option Nat
 |_,_,[]=>none
 |n,room,[x]=>match looseP x with
  |none=>none
  |some v=>if v<room then some (n*room+v)else none
 |n,room,x::y::r=>match looseP x with
  |none=>none
  |some v=>if v<256 then loF (n*256+v) (room/256) (y::r)else none
def lo4(fs:List (List UInt8)):Option Nat:=if fs.length≤4 then loF 0 4294967296 fs else none
theorem loF_lt: ∀{fs:List (List UInt8)} {n room m:Nat},loF n room fs=some m→m<(n+1)*room
 |[],_,_,_,h=>by cases h
 |[x],n,room,m,h=>by
  rw[loF]at h
  cases hx:looseP x with
  |none=>rw[hx]at h;cases h
  |some v=>
   rw[hx]at h
   simp only at h
   split at h
   ·cases h
    rw[Nat.add_mul,Nat.one_mul]
    omega
   cases h
 |x::y::r,n,room,m,h=>by
  rw[loF]at h
  cases hx:looseP x with
  |none=>rw[hx]at h;cases h
  |some v=>
   rw[hx]at h
   simp only at h
   split at h
   ·rename_i hv
    have ih:=loF_lt h
    refine Nat.lt_of_lt_of_le ih ?_
    have h1:(n*256+v+1)*(room/256)≤(n*256+256)*(room/256):=Nat.mul_le_mul_right _ (by omega)
    have h2:(n*256+256)*(room/256)=(n+1)*(256*(room/256)):=by rw[←Nat.mul_assoc,Nat.add_mul n 1 256,Nat.one_mul]
    have h3:256*(room/256)≤room:=Nat.mul_div_le room 256
    exact Nat.le_trans h1 (h2▸Nat.mul_le_mul_left _ h3)
   cases h
theorem lo4_lt{fs:List (List UInt8)}{m:Nat}(h:lo4 fs=some m):m<4294967296:=by
 unfold lo4 at h
 split at h
 ·have:=loF_lt h
  omega
 cases h
theorem lo4_ip4{n:Nat}(h:n<4294967296):lo4 (spl 46 (ip4L n))=some n:=by
 rw[ip4_spl h]
 unfold lo4
 rw[if_pos (by simp)]
 simp only[loF]
 rw[looseP_dec _ (by omega),looseP_dec _ (by omega),looseP_dec _ (by omega),looseP_dec _ (by omega)]
 simp only
 rw[if_pos (by omega),if_pos (by omega),if_pos (by omega),if_pos (by omega)]
 congr 1
 omega
def numZ(r:Option Nat):Int:=match r with
 |none=> -1
 |some n=>n
theorem digF_drop(s:ByteArray)(k:Nat)(h:k<s.size)(base n:Nat):digF base n (s.data.toList.drop k)=
  if 0≤hexN s[k].toNat∧hexN s[k].toNat<(base:Int)then digF base (n*base+(hexN s[k].toNat).toNat) (s.data.toList.drop (k+1))else none:=by
 rw[List.drop_eq_getElem_cons (by simpa using h),digF]
 rfl
theorem num_no{base most:Nat}{l:List UInt8}(h:most<l.length):numL base most l=none:=by unfold numL;rw[if_neg (by omega)]
theorem num_yes{base most:Nat}{l:List UInt8}(h:l.length≤most):numL base most l=digF base 0 l:=by unfold numL;rw[if_pos h]
theorem pow_room{n base d k:Nat}(hb:base≤16)(hd:d<base)(hn:n<16^k):n*base+d<16^(k+1):=by
 have h1:n*base≤n*16:=Nat.mul_le_mul_left _ hb
 rw[Nat.pow_succ]
 omega
theorem pow_le{k:Nat}(h:k≤11):16^k≤17592186044416:=Nat.pow_le_pow_right (by decide) h
theorem spec5Number(s:ByteArray)(base most:Nat)(w:World)(hb:base≤16)(hm:most≤11):
  Calls Tryz.prog 116 #[.string s,.int .i64 (base:Int),.int .i64 (most:Int)] w fun e w'=>e=.returned (.int .i64 (numZ (numL base most s.data.toList)))∧w=w':=by
 have hsl:s.data.toList.length=s.size:=by simp
 by_cases hlen:most<s.size
 ·have HF:Hid (numL base most s.data.toList=none):=num_no (by omega)
  have hlen':(most:Int)<(s.size:Int):=by omega
  clear hsl
  go_enter Tryz.func116,Tryz.ntmps116
  go_wp2
  go_ret
  exact ⟨by rw[HF.out];rfl,rfl⟩
 have HF:Hid (numL base most s.data.toList=digF base 0 s.data.toList):=num_yes (by omega)
 have hlen': ¬(most:Int)<(s.size:Int):=by omega
 clear hsl
 go_enter Tryz.func116,Tryz.ntmps116
 go_wp2
 go_loop[7,8] (fun x i=> ∃k n:Nat,k≤s.size∧n<16^k∧i=.int .i64 k∧x=.int .i64 n∧digF base n (s.data.toList.drop k)=digF base 0 s.data.toList) (fun _ i=>s.size-(intOf i).toNat)
 case atStart=>exact ⟨0,0,Nat.zero_le _,by decide,rfl,rfl,rfl⟩
 obtain ⟨k,n,hk,hn,rfl,rfl,hf⟩:=hrel
 have HR:Hid (digF base n (s.data.toList.drop k)=digF base 0 s.data.toList):=hf
 have HN:Hid (n<16^k):=hn
 have hk11:k≤11:=by omega
 have hn2:n<17592186044416:=Nat.lt_of_lt_of_le hn (pow_le hk11)
 clear hf hn
 by_cases hlt:k<s.size
 ·obtain ⟨d,hd⟩: ∃d:Nat,s[k].toNat=d:=⟨_,rfl⟩
  have hd1:(d:Int)≤255:=by have:=s[k].toNat_lt;omega
  have HD:Hid (digF base n (s.data.toList.drop k)=if 0≤hexN d∧hexN d<(base:Int)then digF base (n*base+(hexN d).toNat) (s.data.toList.drop (k+1))else none):=by
   show _=_
   rw[digF_drop s k hlt base n,hd]
  obtain ⟨hx1,hx2⟩:=hexN_le d
  have CH:Hid (∀W,CS 113 #[.int .u8 (d:Int)] W (.int .i64 (hexN d))):=fun W=>specHex d W hd1
  generalize hexN d=x at HD CH hx1 hx2
  have hki:(k:Int)<(s.size:Int):=by omega
  by_cases hx:0≤x∧x<(base:Int)
  ·obtain ⟨y,rfl⟩: ∃y:Nat,x=(y:Int):=⟨x.toNat,by omega⟩
   obtain ⟨p,hp⟩: ∃p:Nat,n*base=p:=⟨_,rfl⟩
   have HP:Hid (n*base=p):=hp
   have hp2:(n:Int)*(base:Int)=(p:Int):=by rw[←hp];simp
   have hp3:p+y<281474976710656:=by
    have h1:n*base≤n*16:=Nat.mul_le_mul_left _ hb
    omega
   have hyb: ¬(base:Int)≤(y:Int):=by omega
   have HX:Hid (y<base):=by show _<_;omega
   clear hx hp
   go_wp2_with fail
   refine (CH.out _).mono ?_
   rintro e w' ⟨rfl,rfl⟩
   go_wp2_with fail
   go_round
   case rel=>
    refine ⟨k+1,n*base+y,by omega,pow_room hb HX.out HN.out,by go_num,by rw[HP.out];go_num,?_⟩
    rw[←HR.out,HD.out,if_pos ⟨by omega,by have:=HX.out;omega⟩]
    simp
   case measure=>simp[intOf];omega
  have HZ:Hid (digF base 0 s.data.toList=none):=by
   show _=_
   rw[←HR.out,HD.out,if_neg hx]
  have HX:Hid (¬(0≤x∧x<(base:Int))):=hx
  clear hx
  by_cases hx0:x<0
  ·go_wp2_with fail
   refine (CH.out _).mono ?_
   rintro e w' ⟨rfl,rfl⟩
   go_wp2_with fail
   go_ret
   exact ⟨by rw[HF.out,HZ.out];rfl,rfl⟩
  have hx3:(base:Int)≤x:=by have:=HX.out;omega
  go_wp2_with fail
  refine (CH.out _).mono ?_
  rintro e w' ⟨rfl,rfl⟩
  go_wp2_with fail
  go_ret
  exact ⟨by rw[HF.out,HZ.out];rfl,rfl⟩
 have HZ:Hid (digF base 0 s.data.toList=some n):=by
  show _=_
  rw[←HR.out,List.drop_of_length_le (by simp;omega)]
  rfl
 have hki: ¬(k:Int)<(s.size:Int):=by omega
 go_wp2_with fail
 go_ret
 exact ⟨by rw[HF.out,HZ.out];rfl,rfl⟩
def numA(r:Option Nat):Value:=match r with
 |none=> .tuple #[.int .i64 0,.bool false]
 |some n=> .tuple #[.int .i64 n,.bool true]
def alD(base:Nat)(l:List UInt8):Bool:=l.all fun c=>decide (0≤hexN c.toNat∧hexN c.toNat<(base:Int))
theorem alD_drop(s:ByteArray)(k:Nat)(h:k<s.size)(base:Nat):alD base (s.data.toList.drop k)=(decide (0≤hexN s[k].toNat∧hexN s[k].toNat<(base:Int))&&alD base (s.data.toList.drop (k+1))):=by
 rw[List.drop_eq_getElem_cons (by simpa using h)]
 rfl
theorem implDigitsAlone(s:ByteArray)(base:Nat)(w:World)(hs:s.size≤1048576):
  Calls Tryz.prog 192 #[.string s,.int .i64 (base:Int)] w fun e w'=>e=.returned (.bool (alD base s.data.toList))∧w=w':=by
 go_enter Tryz.func192,Tryz.ntmps192
 go_wp2
 go_loop[9] (fun i=> ∃k:Nat,k≤s.size∧i=.int .i64 k∧alD base (s.data.toList.drop k)=alD base s.data.toList) (fun i=>s.size-(intOf i).toNat)
 case atStart=>exact ⟨0,Nat.zero_le _,rfl,rfl⟩
 obtain ⟨k,hk,rfl,hf⟩:=hrel
 have HR:Hid (alD base (s.data.toList.drop k)=alD base s.data.toList):=hf
 clear hf
 by_cases hlt:k<s.size
 ·obtain ⟨d,hd⟩: ∃d:Nat,s[k].toNat=d:=⟨_,rfl⟩
  have hd1:(d:Int)≤255:=by have:=s[k].toNat_lt;omega
  have HD:Hid (alD base (s.data.toList.drop k)=(decide (0≤hexN d∧hexN d<(base:Int))&&alD base (s.data.toList.drop (k+1)))):=by
   show _=_
   rw[alD_drop s k hlt base,hd]
  obtain ⟨hx1,hx2⟩:=hexN_le d
  have CH:Hid (∀W,CS 194 #[.int .u8 (d:Int)] W (.int .i64 (hexN d))):=fun W=>implHex d W (by omega)
  generalize hexN d=x at HD CH hx1 hx2
  have hki:(k:Int)<(s.size:Int):=by omega
  by_cases hx0:x<0
  ·have HZ:Hid (alD base s.data.toList=false):=by
    show _=_
    rw[←HR.out,HD.out,decide_eq_false (by omega)]
    rfl
   go_wp2_with fail
   refine (CH.out _).mono ?_
   rintro e w' ⟨rfl,rfl⟩
   go_wp2_with fail
   go_ret
   exact ⟨by rw[HZ.out];rfl,rfl⟩
  by_cases hx3:(base:Int)≤x
  ·have HZ:Hid (alD base s.data.toList=false):=by
    show _=_
    rw[←HR.out,HD.out,decide_eq_false (by omega)]
    rfl
   go_wp2_with fail
   refine (CH.out _).mono ?_
   rintro e w' ⟨rfl,rfl⟩
   go_wp2_with fail
   go_ret
   exact ⟨by rw[HZ.out];rfl,rfl⟩
  have HZ:Hid (alD base (s.data.toList.drop (k+1))=alD base s.data.toList):=by
   show _=_
   rw[←HR.out,HD.out,decide_eq_true (by omega)]
   rfl
  go_wp2_with fail
  refine (CH.out _).mono ?_
  rintro e w' ⟨rfl,rfl⟩
  go_wp2_with fail
  go_round
  case rel=>exact ⟨k+1,by omega,by go_num,HZ.out⟩
  case measure=>simp[intOf];omega
 have HZ:Hid (alD base s.data.toList=true):=by
  show _=_
  rw[←HR.out,List.drop_of_length_le (by simp;omega)]
  rfl
 have hki: ¬(k:Int)<(s.size:Int):=by omega
 go_wp2_with fail
 go_ret
 exact ⟨by rw[HZ.out];rfl,rfl⟩
theorem strClone(s:ByteArray)(w:World)(hlim:s.size≤281474976710656):
  Calls Tryz.prog 49 #[.string s] w fun e w'=>e=.returned (.string s)∧Below w.heap.size w w':=by
 go_enter Tryz.func49,Tryz.ntmps49
 go_wp2_with (go_at_call 80;refine (Tryz.stringslite_Clone _ _ hlim).mono ?_;rintro e w1 ⟨rfl,hb1⟩)
 go_ret
 exact ⟨rfl,hb1⟩
def fieldsTo(s:ByteArray)(b:Int):Nat→List ByteArray×Nat
 |0=>([],0)
 |k+1=>if ((s.data.toList.getD k 0).toNat:Int)=b then ((fieldsTo s b k).1++[s.extract (fieldsTo s b k).2 k],k+1)else fieldsTo s b k
def fieldsL(s:ByteArray)(b:Int):List ByteArray:=(fieldsTo s b s.size).1++[s.extract (fieldsTo s b s.size).2 s.size]
theorem fieldsTo_le(s:ByteArray)(b:Int)(k:Nat):(fieldsTo s b k).2≤k∧(fieldsTo s b k).1.length≤k:=by
 induction k with
 |zero=>simp[fieldsTo]
 |succ k ih=>
  unfold fieldsTo
  split
  ·simp;omega
  omega
theorem getD_at(s:ByteArray)(k:Nat)(h:k<s.size):s.data.toList.getD k 0=s[k]:=by
 have hk:k<s.data.toList.length:=by simpa using h
 rw[List.getD_eq_getElem?_getD,List.getElem?_eq_getElem hk]
 rfl
theorem fieldsTo_hit(s:ByteArray)(b:Int)(k:Nat)(h:k<s.size)(e:(s[k].toNat:Int)=b):fieldsTo s b (k+1)=((fieldsTo s b k).1++[s.extract (fieldsTo s b k).2 k],k+1):=by
 rw[fieldsTo,getD_at s k h,if_pos e]
theorem fieldsTo_miss(s:ByteArray)(b:Int)(k:Nat)(h:k<s.size)(e: ¬(s[k].toNat:Int)=b):fieldsTo s b (k+1)=fieldsTo s b k:=by
 rw[fieldsTo,getD_at s k h,if_neg e]
theorem Tryz.infoStr:(Tryz.prog.info? 9).map (fun i=>(i.zero,i.size,i.bytes))=some (some (.string ⟨#[]⟩),1,16):=by kernel_rfl
theorem str_one(s:ByteArray): ∀u∈ #[Value.string s].toList,u.oneCell'=true:=by
 intro u hu;simp at hu;subst hu;rfl
theorem fields_end(s:ByteArray)(b:Int)(k:Nat)(hk:k=s.size){w1:World}{B:Nat}{v:Value}{e:TypeId}
  (hown:w1.ownsRow B e 1 v ((fieldsTo s b k).1.length+1) (scells (fieldsTo s b k).1++[.string (s.extract (fieldsTo s b k).2 k)])):
  w1.ownsRow B e 1 v (fieldsL s b).length (scells (fieldsL s b)):=by
 subst hk
 unfold fieldsL
 rw[scells_snoc,List.length_append]
 exact hown
theorem fields_hit(s:ByteArray)(b:Int)(k:Nat)(hk:k<s.size)(h:(s[k].toNat:Int)=b){w1:World}{B:Nat}{v:Value}{e:TypeId}
  (hown:w1.ownsRow B e 1 v ((fieldsTo s b k).1.length+1) (scells (fieldsTo s b k).1++[.string (s.extract (fieldsTo s b k).2 k)])):
  w1.ownsRow B e 1 v (fieldsTo s b (k+1)).1.length (scells (fieldsTo s b (k+1)).1):=by
 rw[fieldsTo_hit s b k hk h]
 simp only
 rw[scells_snoc,List.length_append]
 exact hown
theorem specFieldsB(s:ByteArray)(b:Int)(w:World)(hs:s.size≤16777216):
  Calls Tryz.prog 66 #[.string s,.int .u8 b] w fun e w'=> ∃v,e=.returned v∧w'.ownsRow w.heap.size 9 1 v (fieldsL s b).length (scells (fieldsL s b))∧Below w.heap.size w w':=by
 go_enter Tryz.func66,Tryz.ntmps66
 go_wp2
 go_loopw[5,6,7] (fun v f i wr=> ∃k:Nat,k≤s.size+1∧i=.int .i64 k∧(k≤s.size→f=.int .i64 (fieldsTo s b k).2∧wr.ownsRow w.heap.size 9 1 v (fieldsTo s b k).1.length (scells (fieldsTo s b k).1))∧
   (k=s.size+1→wr.ownsRow w.heap.size 9 1 v (fieldsL s b).length (scells (fieldsL s b)))∧Below w.heap.size w wr)
  (fun _ _ i _=>s.size+1-(intOf i).toNat)
 case atStart=>exact ⟨0,Nat.zero_le _,rfl,fun _=>⟨rfl,World.ownsRow_lit w #[] 0 (Nat.le_refl _) (by decide) rfl⟩,fun h=>by omega,(Below.refl _ _).alloc (Nat.le_refl _) _⟩
 obtain ⟨k,hk,rfl,hin,hend,hbel⟩:=hrel
 by_cases hle:k≤s.size
 ·obtain ⟨rfl,hown⟩:=hin hle
  clear hend
  have hsz:=hbel.size
  obtain ⟨hf1,hf2⟩:=fieldsTo_le s b k
  by_cases heq:k=s.size
  ·have hkk:((k:Int)==(s.size:Int))=true:=by simp[heq]
   have HE:Hid (k=s.size):=heq
   clear heq
   go_wp2_with (at_builtin;refine wpList_append_new _ rfl _ _ 33 rfl w.heap.size 9 (.string ⟨#[]⟩) 16 Tryz.underlying33 Tryz.infoStr rfl _ _ _ rfl hown #[.string (s.extract (fieldsTo s b k).2 k)] 1 rfl rfl (str_one _) (by omega) (by unfold maxLen;omega) (by omega) ?_)
   intro v' w1 hown' hb1
   have R:=fields_end s b k HE.out hown'
   have B1:Below w.heap.size w w1:=hbel.trans hb1
   clear hown' hb1 hown hbel hin
   go_wp2
   go_roundw
   case rel=>exact ⟨k+1,by omega,by go_num,fun h=>by have:=HE.out;omega,fun _=>R,B1⟩
   case measure=>simp[intOf];omega
  have hkk:((k:Int)==(s.size:Int))=false:=by simp;omega
  have hlt:k<s.size:=by omega
  clear heq
  by_cases hb:(s[k].toNat:Int)=b
  ·have hbb:((s[k].toNat:Int)==b)=true:=by simp[hb]
   have HB:Hid ((s[k].toNat:Int)=b):=hb
   clear hb
   go_wp2_with (at_builtin;refine wpList_append_new _ rfl _ _ 33 rfl w.heap.size 9 (.string ⟨#[]⟩) 16 Tryz.underlying33 Tryz.infoStr rfl _ _ _ rfl hown #[.string (s.extract (fieldsTo s b k).2 k)] 1 rfl rfl (str_one _) (by omega) (by unfold maxLen;omega) (by omega) ?_)
   intro v' w1 hown' hb1
   have R:=fields_hit s b k hlt HB.out hown'
   have B1:Below w.heap.size w w1:=hbel.trans hb1
   clear hown' hb1 hown hbel hin
   go_wp2
   go_roundw
   case rel=>exact ⟨k+1,by omega,by go_num,fun _=>⟨by rw[fieldsTo_hit s b k hlt HB.out];go_num,R⟩,fun h=>by omega,B1⟩
   case measure=>simp[intOf];omega
  have hbb:((s[k].toNat:Int)==b)=false:=by simp[hb]
  have HB:Hid (¬(s[k].toNat:Int)=b):=hb
  clear hb hin
  go_wp2
  go_roundw
  case rel=>exact ⟨k+1,by omega,by go_num,fun _=>⟨by rw[fieldsTo_miss s b k hlt HB.out],by rw[fieldsTo_miss s b k hlt HB.out];exact hown⟩,fun h=>by omega,hbel⟩
  case measure=>simp[intOf];omega
 have hown:=hend (by omega)
 clear hin hend
 go_wp2
 go_ret
 exact ⟨_,rfl,hown,hbel⟩
theorem implFieldsB(s:ByteArray)(b:Int)(w:World)(hs:s.size≤16777216):
  Calls Tryz.prog 28 #[.string s,.int .u8 b] w fun e w'=> ∃v,e=.returned v∧w'.ownsRow w.heap.size 9 1 v (fieldsL s b).length (scells (fieldsL s b))∧Below w.heap.size w w':=by
 go_enter Tryz.func28,Tryz.ntmps28
 go_wp2
 go_loopw[5,6,11] (fun v f i wr=> ∃k:Nat,k≤s.size∧i=.int .i64 k∧f=.int .i64 (fieldsTo s b k).2∧wr.ownsRow w.heap.size 9 1 v (fieldsTo s b k).1.length (scells (fieldsTo s b k).1)∧Below w.heap.size w wr)
  (fun _ _ i _=>s.size-(intOf i).toNat)
 case atStart=>exact ⟨0,Nat.zero_le _,rfl,rfl,World.ownsRow_lit w #[] 0 (Nat.le_refl _) (by decide) rfl,(Below.refl _ _).alloc (Nat.le_refl _) _⟩
 obtain ⟨k,hk,rfl,rfl,hown,hbel⟩:=hrel
 have hsz:=hbel.size
 obtain ⟨hf1,hf2⟩:=fieldsTo_le s b k
 have hes:(s.extract (fieldsTo s b k).2 k).size≤281474976710656:=by rw[ByteArray.size_extract];omega
 by_cases hlt:k<s.size
 ·by_cases hb:(s[k].toNat:Int)=b
  ·have hbb:((s[k].toNat:Int)==b)=true:=by simp[hb]
   have HB:Hid ((s[k].toNat:Int)=b):=hb
   clear hb
   go_wp2_with (first|(go_at_call 49;refine (strClone _ _ hes).mono ?_;rintro e wc ⟨rfl,hbc⟩;have hown2:=own_below hown hbc;have hsc:=hbc.size)|(at_builtin;refine wpList_append_new _ rfl _ _ 33 rfl w.heap.size 9 (.string ⟨#[]⟩) 16 Tryz.underlying33 Tryz.infoStr rfl _ _ _ rfl hown2 #[.string (s.extract (fieldsTo s b k).2 k)] 1 rfl rfl (str_one _) (by omega) (by unfold maxLen;omega) (by omega) ?_))
   intro v' w1 hown' hb1
   have R:=fields_hit s b k hlt HB.out hown'
   have B1:Below w.heap.size w w1:=(hbel.trans (hbc.mono hsz)).trans hb1
   clear hown' hb1 hown hbel hown2 hbc
   go_wp2
   go_roundw
   case rel=>exact ⟨k+1,by omega,by go_num,by rw[fieldsTo_hit s b k hlt HB.out];go_num,R,B1⟩
   case measure=>simp[intOf];omega
  have hbb:((s[k].toNat:Int)==b)=false:=by simp[hb]
  have HB:Hid (¬(s[k].toNat:Int)=b):=hb
  clear hb
  go_wp2
  go_roundw
  case rel=>exact ⟨k+1,by omega,by go_num,by rw[fieldsTo_miss s b k hlt HB.out],by rw[fieldsTo_miss s b k hlt HB.out];exact hown,hbel⟩
  case measure=>simp[intOf];omega
 have he:k=s.size:=by omega
 have hes2:(s.extract (fieldsTo s b k).2 s.size).size≤281474976710656:=by rw[ByteArray.size_extract];omega
 have HE:Hid (k=s.size):=he
 clear he
 go_wp2_with (first|(go_at_call 49;refine (strClone _ _ hes2).mono ?_;rintro e wc ⟨rfl,hbc⟩;have hown2:=own_below hown hbc;have hsc:=hbc.size)|(at_builtin;refine wpList_append_new _ rfl _ _ 33 rfl w.heap.size 9 (.string ⟨#[]⟩) 16 Tryz.underlying33 Tryz.infoStr rfl _ _ _ rfl hown2 #[.string (s.extract (fieldsTo s b k).2 s.size)] 1 rfl rfl (str_one _) (by omega) (by unfold maxLen;omega) (by omega) ?_))
 intro v' w1 hown' hb1
 have R:=fields_end s b k HE.out (by rw[HE.out]at hown'⊢;exact hown')
 have B1:Below w.heap.size w w1:=(hbel.trans (hbc.mono hsz)).trans hb1
 clear hown' hb1 hown hbel hown2 hbc
 go_wp2
 go_ret
 exact ⟨_,rfl,R,B1⟩
theorem specFields(s:ByteArray)(b:Int)(w:World)(hs:s.size≤1048576):
  Calls Tryz.prog 66 #[.string s,.int .u8 b] w fun e w'=> ∃v,e=.returned v∧w'.ownsRow w.heap.size 9 1 v (fieldsL s b).length (scells (fieldsL s b))∧Below w.heap.size w w':=
 specFieldsB s b w (by omega)
theorem implFields(s:ByteArray)(b:Int)(w:World)(hs:s.size≤1048576):
  Calls Tryz.prog 28 #[.string s,.int .u8 b] w fun e w'=> ∃v,e=.returned v∧w'.ownsRow w.heap.size 9 1 v (fieldsL s b).length (scells (fieldsL s b))∧Below w.heap.size w w':=
 implFieldsB s b w (by omega)
theorem extract_list(s:ByteArray)(a b:Nat):(s.extract a b).data.toList=(s.data.toList.take b).drop a:=by
 rw[ByteArray.data_extract,Array.toList_extract,List.drop_take]
end Go.Proofs.YtijliddchoehhaaGreatDoor
