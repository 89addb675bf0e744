/- PctPlain, HexWalk, SplPlain, NumWalk, CloneWalk, FieldsWalk, ExtPlain. -/
import Derived.Test.YtgcbaphbiaimoaaGreatDoorQP01
import Derived.BigQuiet
set_option maxHeartbeats 1000000
namespace Go.Proofs.YtgcbaphbiaimoaaGreatDoor
open Go.RowKit
def yKz(c:Nat):Bool:=decide (97≤c∧c≤122)||decide (65≤c∧c≤90)
def jdz(c:Nat):Bool:=decide (48≤c∧c≤57)
def vnz(c:Nat):Bool:=decide (c=45∨c=46∨c=95∨c=126)
def yXz(c:Nat):Bool:=yKz c||jdz c||vnz c
def zaxz(c:Nat):Bool:=decide (c=33∨c=36∨c=38∨c=39∨c=40∨c=41∨c=42∨c=43∨c=44∨c=59∨c=61∨c=58∨c=64)
def yHz(set:Int)(c:Nat):Bool:=decide (1≤set∧set≤3)&&(yXz c||zaxz c||(decide (c=47)&&decide (set≠3))||(decide (c=63)&&decide (set=2)))
def vEz(set c:Int):Bool:=decide (0≤c)&&yHz set c.toNat
def zEz(c:Nat):Int:=if 48≤c∧c≤57 then (c:Int)-48 else if 97≤c∧c≤102 then (c:Int)-87 else if 65≤c∧c≤70 then (c:Int)-55 else-1
def digU(n:Nat):UInt8:=UInt8.ofNat (if n<10 then 48+n else 55+n)
def putB(c:UInt8):List UInt8:=[37,digU (c.toNat/16),digU (c.toNat%16)]
def x0z(a b c:Nat):Int:=if a=37∧0≤zEz b∧0≤zEz c then zEz b*16+zEz c else-1
def j3z:List UInt8→Int
 |a::b::c::_=>x0z a.toNat b.toNat c.toNat
 |_=> -1
theorem xSz(c:Nat): -1≤zEz c∧zEz c≤15:=by
 unfold zEz
 split
 ·omega
 split
 ·omega
 split<;>omega
theorem zrSz(a b c:Nat): -1≤x0z a b c∧x0z a b c≤255:=by
 have h1:=xSz b
 have h2:=xSz c
 unfold x0z
 split<;>omega
def xuz{α:Type}(f g:UInt8→List α):List UInt8→List α
 |a::b::c::r=>if 0≤x0z a.toNat b.toNat c.toNat then f (UInt8.ofNat (x0z a.toNat b.toNat c.toNat).toNat)++xuz f g r else g a++xuz f g (b::c::r)
 |[a,b]=>g a++g b
 |[a]=>g a
 |[]=>[]
theorem za3z{α:Type}(f g:UInt8→List α)(a b c:UInt8)(r:List UInt8)(h:0≤x0z a.toNat b.toNat c.toNat):
  xuz f g (a::b::c::r)=f (UInt8.ofNat (x0z a.toNat b.toNat c.toNat).toNat)++xuz f g r:=by
 rw[xuz,if_pos h]
theorem voz{α:Type}(f g:UInt8→List α)(a:UInt8)(r:List UInt8)(h:j3z (a::r)<0):xuz f g (a::r)=g a++xuz f g r:=by
 match r,h with
 |[],_=>simp[xuz]
 |[b],_=>simp[xuz]
 |b::c::r,h=>
  have h': ¬0≤x0z a.toNat b.toNat c.toNat:=by have h2:x0z a.toNat b.toNat c.toNat<0:=h;omega
  rw[xuz,if_neg h']
theorem zjAz(a:UInt8)(r:List UInt8)(h:a.toNat≠37):j3z (a::r)<0:=by
 match r with
 |[]=>simp[j3z]
 |[b]=>simp[j3z]
 |b::c::r=>simp[j3z,x0z,h]
theorem jnz(P:List UInt8→Prop)(h0:P [])(h1: ∀a b c r,0≤x0z a.toNat b.toNat c.toNat→P r→P (a::b::c::r))(h2: ∀a r,j3z (a::r)<0→P r→P (a::r)): ∀l,P l
 |[]=>h0
 |[a]=>h2 a [] (by simp[j3z]) h0
 |[a,b]=>h2 a [b] (by simp[j3z]) (h2 b [] (by simp[j3z]) h0)
 |a::b::c::r=>
  if h:0≤x0z a.toNat b.toNat c.toNat then h1 a b c r h (jnz P h0 h1 h2 r)
  else h2 a (b::c::r) (by show x0z a.toNat b.toNat c.toNat<0;omega) (jnz P h0 h1 h2 (b::c::r))
theorem zrTz: ∀n,n<256→x0z 37 (digU (n/16)).toNat (digU (n%16)).toNat=(n:Int):=by decide+kernel
theorem zpgz(c:UInt8):x0z (37:UInt8).toNat (digU (c.toNat/16)).toNat (digU (c.toNat%16)).toNat=(c.toNat:Int):=zrTz c.toNat c.toNat_lt
theorem zmNz{α:Type}(f g:UInt8→List α)(c:UInt8)(r:List UInt8):xuz f g (putB c++r)=f c++xuz f g r:=by
 have h:=zpgz c
 show xuz f g (37::digU (c.toNat/16)::digU (c.toNat%16)::r)=_
 rw[za3z f g _ _ _ _ (by rw[h];omega),h]
 simp
def unL:List UInt8→List UInt8:=xuz (fun c=>[c]) (fun a=>[a])
def x3z(c:UInt8):List UInt8:=if yXz c.toNat then [c]else putB c
def xlz(set:Int)(c:UInt8):List UInt8:=if yHz set c.toNat then [c]else putB c
def plL(set:Int):List UInt8→List UInt8:=xuz x3z (xlz set)
def okT(set:Int):List UInt8→List Bool:=xuz (fun _=>[]) (fun a=>[yHz set a.toNat])
def okL(set:Int)(l:List UInt8):Bool:=(okT set l).all id
theorem ztoz(set:Int):yHz set 37=false:=by
 simp[yHz,yXz,yKz,jdz,vnz,zaxz]
theorem zrUz{set:Int}{c:Nat}(h:yHz set c=true):c≠37:=by
 intro e
 rw[e,ztoz]at h
 cases h
theorem zrVz{c:Nat}(h:yXz c=true):c≠37:=by
 intro e
 subst e
 revert h
 decide
theorem zecz{set:Int}{c:Nat}(hs:1≤set∧set≤3)(h:yXz c=true):yHz set c=true:=by
 simp[yHz,hs,h]
theorem zphz{set:Int}{c:Nat}(hs: ¬(1≤set∧set≤3)):yHz set c=false:=by
 unfold yHz
 rw[decide_eq_false hs]
 rfl
theorem zrWz{c:Nat}(h:yXz c=true):c<128:=by
 simp[yXz,yKz,jdz,vnz]at h
 omega
theorem zrXz{set:Int}{c:Nat}(h:yHz set c=true):c<128:=by
 simp[yHz,yXz,yKz,jdz,vnz,zaxz]at h
 omega
theorem zjBz{α:Type}(f g:UInt8→List α)(set:Int)(c:UInt8)(r:List UInt8):xuz f g (xlz set c++r)=(if yHz set c.toNat then g c else f c)++xuz f g r:=by
 unfold xlz
 split
 ·next h=>exact voz f g c r (zjAz c r (zrUz h))
 exact zmNz f g c r
theorem zjCz{α:Type}(f g:UInt8→List α)(c:UInt8)(r:List UInt8):xuz f g (x3z c++r)=(if yXz c.toNat then g c else f c)++xuz f g r:=by
 unfold x3z
 split
 ·next h=>exact voz f g c r (zjAz c r (zrVz h))
 exact zmNz f g c r
theorem zfDz(set:Int)(c:UInt8):1≤(xlz set c).length∧(xlz set c).length≤3:=by
 unfold xlz
 split<;>simp[putB]
theorem zpiz(c:UInt8):1≤(x3z c).length∧(x3z c).length≤3:=by
 unfold x3z
 split<;>simp[putB]
theorem zivz(set:Int)(a b c:UInt8)(r:List UInt8)(h:0≤x0z a.toNat b.toNat c.toNat):plL set (a::b::c::r)=x3z (UInt8.ofNat (x0z a.toNat b.toNat c.toNat).toNat)++plL set r:=za3z _ _ a b c r h
theorem zc7z(set:Int)(a:UInt8)(r:List UInt8)(h:j3z (a::r)<0):plL set (a::r)=xlz set a++plL set r:=voz _ _ a r h
theorem ztpz(a b c:UInt8)(r:List UInt8)(h:0≤x0z a.toNat b.toNat c.toNat):unL (a::b::c::r)=UInt8.ofNat (x0z a.toNat b.toNat c.toNat).toNat::unL r:=za3z _ _ a b c r h
theorem zmOz(a:UInt8)(r:List UInt8)(h:j3z (a::r)<0):unL (a::r)=a::unL r:=voz _ _ a r h
theorem zmPz(set:Int)(hs:1≤set∧set≤3)(l:List UInt8):okL set (plL set l)=true:=by
 induction l using jnz with
 |h0=>rfl
 |h1 a b c r h ih=>
  rw[zivz set a b c r h]
  generalize UInt8.ofNat (x0z a.toNat b.toNat c.toNat).toNat=d
  unfold okL okT at ih⊢
  rw[zjCz,List.all_append,ih]
  split
  ·next h=>simp[zecz hs h]
  rfl
 |h2 a r h ih=>
  rw[zc7z set a r h]
  unfold okL okT at ih⊢
  rw[zjBz,List.all_append,ih]
  split
  ·next h=>simp[h]
  rfl
theorem ztaz(set:Int)(hs:1≤set∧set≤3)(l:List UInt8):plL set (plL set l)=plL set l:=by
 induction l using jnz with
 |h0=>rfl
 |h1 a b c r h ih=>
  rw[zivz set a b c r h]
  generalize UInt8.ofNat (x0z a.toNat b.toNat c.toNat).toNat=d
  have e:plL set (x3z d++plL set r)=(if yXz d.toNat then xlz set d else x3z d)++plL set (plL set r):=zjCz _ _ d _
  rw[e,ih]
  congr 1
  split
  ·next h=>unfold xlz x3z;rw[zecz hs h,h]
  rfl
 |h2 a r h ih=>
  rw[zc7z set a r h]
  have e:plL set (xlz set a++plL set r)=(if yHz set a.toNat then xlz set a else x3z a)++plL set (plL set r):=zjBz _ _ set a _
  rw[e,ih]
  congr 1
  split
  ·rfl
  next h=>
  have hf:yXz a.toNat=false:=by
   cases hx:yXz a.toNat with
   |false=>rfl
   |true=>exact absurd (zecz hs hx) h
  unfold xlz x3z
  rw[hf]
  simp[h]
theorem zlyz(set:Int)(l:List UInt8):(plL set l).length≤3*l.length:=by
 induction l using jnz with
 |h0=>simp[plL,xuz]
 |h1 a b c r h ih=>
  rw[zivz set a b c r h,List.length_append]
  have:=zpiz (UInt8.ofNat (x0z a.toNat b.toNat c.toNat).toNat)
  simp only[List.length_cons]
  omega
 |h2 a r h ih=>
  rw[zc7z set a r h,List.length_append]
  have:=zfDz set a
  simp only[List.length_cons]
  omega
theorem ztqz(l:List UInt8):(unL l).length≤l.length:=by
 induction l using jnz with
 |h0=>simp[unL,xuz]
 |h1 a b c r h ih=>rw[ztpz a b c r h];simp only[List.length_cons];omega
 |h2 a r h ih=>rw[zmOz a r h];simp only[List.length_cons];omega
def yaz(s:ByteArray)(k:Nat):Int:=j3z (s.data.toList.drop k)
theorem xHz(s:ByteArray)(k:Nat)(h:k<s.size):s.data.toList.drop k=s[k]::s.data.toList.drop (k+1):=by
 have hk:k<s.data.toList.length:=by simpa using h
 rw[List.drop_eq_getElem_cons hk]
 rfl
theorem jHz(s:ByteArray)(k:Nat)(h:k+2<s.size):yaz s k=x0z s[k].toNat s[k+1].toNat s[k+2].toNat:=by
 unfold yaz
 rw[xHz s k (by omega),xHz s (k+1) (by omega),xHz s (k+2) (by omega)]
 rfl
theorem zazz(s:ByteArray)(k:Nat)(h:s.size≤k+2):yaz s k= -1:=by
 unfold yaz
 have hl:(s.data.toList.drop k).length≤2:=by
  rw[List.length_drop]
  have:s.data.toList.length=s.size:=by simp
  omega
 match s.data.toList.drop k,hl with
 |[],_=>rfl
 |[_],_=>rfl
 |[_,_],_=>rfl
theorem zbxz(s:ByteArray)(k:Nat): -1≤yaz s k∧yaz s k≤255:=by
 by_cases h:k+2<s.size
 ·rw[jHz s k h];exact zrSz _ _ _
 rw[zazz s k (by omega)];omega
theorem zaAz{s:ByteArray}{k:Nat}(h:0≤yaz s k):k+2<s.size:=by
 rcases Nat.lt_or_ge (k+2) s.size with h1|h1
 ·exact h1
 rw[zazz s k h1]at h;omega
theorem zffz{α:Type}(f g:UInt8→List α)(s:ByteArray)(k:Nat)(h:0≤yaz s k):xuz f g (s.data.toList.drop k)=f (UInt8.ofNat (yaz s k).toNat)++xuz f g (s.data.toList.drop (k+3)):=by
 have hk:=zaAz h
 rw[jHz s k hk]at h⊢
 rw[xHz s k (by omega),xHz s (k+1) (by omega),xHz s (k+2) (by omega)]
 exact za3z f g _ _ _ _ h
theorem zc8z{α:Type}(f g:UInt8→List α)(s:ByteArray)(k:Nat)(hk:k<s.size)(h:yaz s k<0):xuz f g (s.data.toList.drop k)=g s[k]++xuz f g (s.data.toList.drop (k+1)):=by
 unfold yaz at h
 rw[xHz s k hk]at h⊢
 exact voz f g _ _ h
theorem zmQz{α:Type}(f g:UInt8→List α)(s:ByteArray)(k:Nat)(hk:s.size≤k):xuz f g (s.data.toList.drop k)=[]:=by
 rw[List.drop_of_length_le (by simpa using hk)]
 rfl
theorem zpjz(x a b:Int)(w:World):
  Calls Tryz.prog 39 #[.int .i64 x,.int .i64 a,.int .i64 b] w fun e w'=>e=.returned (.bool (decide (a≤x∧x≤b)))∧w=w':=by
 by_cases h:a≤x∧x≤b
 ·rw[decide_eq_true h];exact zfz x a b w h.1 h.2
 rw[decide_eq_false h];exact zlz x a b w (by omega)
theorem zmRz{c:Nat}(h1:48≤(c:Int))(h2:(c:Int)≤57):zEz c=(c:Int)-48:=by unfold zEz;rw[if_pos (by omega)]
theorem zmSz{c:Nat}(h1:97≤(c:Int))(h2:(c:Int)≤102):zEz c=(c:Int)-87:=by unfold zEz;rw[if_neg (by omega),if_pos (by omega)]
theorem zmTz{c:Nat}(h1:65≤(c:Int))(h2:(c:Int)≤70):zEz c=(c:Int)-55:=by unfold zEz;rw[if_neg (by omega),if_neg (by omega),if_pos (by omega)]
theorem zmUz{c:Nat}(h1: ¬(48≤(c:Int)∧(c:Int)≤57))(h2: ¬(97≤(c:Int)∧(c:Int)≤102))(h3: ¬(65≤(c:Int)∧(c:Int)≤70)):zEz c= -1:=by unfold zEz;rw[if_neg (by omega),if_neg (by omega),if_neg (by omega)]
theorem xfz(c:Nat)(w:World)(hc:c≤255):
  Calls Tryz.prog 218 #[.int .u8 (c:Int)] w fun e w'=>e=.returned (.bool (decide (48≤(c:Int)∧(c:Int)≤57)))∧w=w':=by
 by_cases h1:48≤(c:Int)
 ·go_enter Tryz.func218,Tryz.ntmps218
  go_wp2
  go_ret
  exact ⟨zgz (by simp[h1]<;>omega),rfl⟩
 go_enter Tryz.func218,Tryz.ntmps218
 go_wp2
 go_ret
 exact ⟨zgz (by simp<;>omega),rfl⟩
theorem zfgz(c:Nat)(w:World)(hc:c≤255):
  Calls Tryz.prog 215 #[.int .u8 (c:Int)] w fun e w'=>e=.returned (.int .i64 (zEz c))∧w=w':=by
 by_cases h1:48≤(c:Int)∧(c:Int)≤57
 ·obtain ⟨a1,a2⟩:=h1
  go_enter Tryz.func215,Tryz.ntmps215
  go_wp2_with fail
  refine (xfz c _ hc).mono ?_
  rintro e w' ⟨rfl,rfl⟩
  rw[decide_eq_true (show 48≤(c:Int)∧(c:Int)≤57 from ⟨a1,a2⟩)]
  go_wp2
  go_ret
  exact ⟨znz (by rw[zmRz a1 a2]),rfl⟩
 by_cases h2:97≤(c:Int)∧(c:Int)≤102
 ·obtain ⟨a1,a2⟩:=h2
  have H1:Hid (¬(48≤(c:Int)∧(c:Int)≤57)):=h1
  clear h1
  go_enter Tryz.func215,Tryz.ntmps215
  go_wp2_with fail
  refine (xfz c _ hc).mono ?_
  rintro e w' ⟨rfl,rfl⟩
  rw[decide_eq_false H1.out]
  go_wp2
  go_ret
  exact ⟨znz (by rw[zmSz a1 a2]<;>omega),rfl⟩
 by_cases h3:65≤(c:Int)∧(c:Int)≤70
 ·obtain ⟨a1,a2⟩:=h3
  have H1:Hid (¬(48≤(c:Int)∧(c:Int)≤57)):=h1
  clear h1 h2
  have h4: ¬97≤(c:Int):=by omega
  go_enter Tryz.func215,Tryz.ntmps215
  go_wp2_with fail
  refine (xfz c _ hc).mono ?_
  rintro e w' ⟨rfl,rfl⟩
  rw[decide_eq_false H1.out]
  go_wp2
  go_ret
  exact ⟨znz (by rw[zmTz a1 a2]<;>omega),rfl⟩
 have H1:Hid (¬(48≤(c:Int)∧(c:Int)≤57)):=h1
 have H0:Hid (zEz c= -1):=zmUz h1 h2 h3
 clear h1
 rcases Int.lt_or_le (c:Int) 97 with h4|h4
 ·rcases Int.lt_or_le (c:Int) 65 with h5|h5
  ·clear h2 h3
   go_enter Tryz.func215,Tryz.ntmps215
   go_wp2_with fail
   refine (xfz c _ hc).mono ?_
   rintro e w' ⟨rfl,rfl⟩
   rw[decide_eq_false H1.out]
   go_wp2
   go_ret
   exact ⟨znz (by rw[H0.out]),rfl⟩
  have h6: ¬(c:Int)≤70:=by omega
  clear h2 h3
  go_enter Tryz.func215,Tryz.ntmps215
  go_wp2_with fail
  refine (xfz c _ hc).mono ?_
  rintro e w' ⟨rfl,rfl⟩
  rw[decide_eq_false H1.out]
  go_wp2
  go_ret
  exact ⟨znz (by rw[H0.out]),rfl⟩
 have h6: ¬(c:Int)≤102:=by omega
 have h7: ¬(c:Int)≤70:=by omega
 have h8:65≤(c:Int):=by omega
 clear h2 h3
 go_enter Tryz.func215,Tryz.ntmps215
 go_wp2_with fail
 refine (xfz c _ hc).mono ?_
 rintro e w' ⟨rfl,rfl⟩
 rw[decide_eq_false H1.out]
 go_wp2
 go_ret
 exact ⟨znz (by rw[H0.out]),rfl⟩
theorem zb2z(c:Nat)(w:World)(hc:(c:Int)≤255):
  Calls Tryz.prog 113 #[.int .u8 (c:Int)] w fun e w'=>e=.returned (.int .i64 (zEz c))∧w=w':=by
 by_cases h1:48≤(c:Int)∧(c:Int)≤57
 ·obtain ⟨a1,a2⟩:=h1
  go_enter Tryz.func113,Tryz.ntmps113
  go_wp2_with (go_at_call 39;refine (zfz _ _ _ _ a1 a2).mono ?_;rintro e w' ⟨rfl,rfl⟩)
  go_ret
  exact ⟨znz (by rw[zmRz a1 a2]),rfl⟩
 have g1:(c:Int)<48∨57<(c:Int):=by omega
 by_cases h2:97≤(c:Int)∧(c:Int)≤102
 ·obtain ⟨a1,a2⟩:=h2
  clear h1
  have H1:Hid ((c:Int)<48∨57<(c:Int)):=g1
  clear g1
  go_enter Tryz.func113,Tryz.ntmps113
  go_wp2_with fail
  refine (zlz _ _ _ _ H1.out).mono ?_
  rintro e w' ⟨rfl,rfl⟩
  go_wp2_with fail
  refine (zfz _ _ _ _ a1 a2).mono ?_
  rintro e w' ⟨rfl,rfl⟩
  go_wp2
  go_ret
  exact ⟨znz (by rw[zmSz a1 a2]<;>omega),rfl⟩
 have g2:(c:Int)<97∨102<(c:Int):=by omega
 have H1:Hid ((c:Int)<48∨57<(c:Int)):=g1
 have H2:Hid ((c:Int)<97∨102<(c:Int)):=g2
 by_cases h3:65≤(c:Int)∧(c:Int)≤70
 ·obtain ⟨a1,a2⟩:=h3
  clear h1 h2 g1 g2
  go_enter Tryz.func113,Tryz.ntmps113
  go_wp2_with fail
  refine (zlz _ _ _ _ H1.out).mono ?_
  rintro e w' ⟨rfl,rfl⟩
  go_wp2_with fail
  refine (zlz _ _ _ _ H2.out).mono ?_
  rintro e w' ⟨rfl,rfl⟩
  go_wp2_with fail
  refine (zfz _ _ _ _ a1 a2).mono ?_
  rintro e w' ⟨rfl,rfl⟩
  go_wp2
  go_ret
  exact ⟨znz (by rw[zmTz a1 a2]<;>omega),rfl⟩
 have H0:Hid (zEz c= -1):=zmUz h1 h2 h3
 have H3:Hid ((c:Int)<65∨70<(c:Int)):=by show _∨_;omega
 clear h1 h2 h3 g1 g2
 go_enter Tryz.func113,Tryz.ntmps113
 go_wp2_with fail
 refine (zlz _ _ _ _ H1.out).mono ?_
 rintro e w' ⟨rfl,rfl⟩
 go_wp2_with fail
 refine (zlz _ _ _ _ H2.out).mono ?_
 rintro e w' ⟨rfl,rfl⟩
 go_wp2_with fail
 refine (zlz _ _ _ _ H3.out).mono ?_
 rintro e w' ⟨rfl,rfl⟩
 go_wp2
 go_ret
 exact ⟨znz (by rw[H0.out]),rfl⟩
def spl(b:UInt8):List UInt8→List (List UInt8)
 |[]=>[[]]
 |c::r=>if c=b then []::spl b r else match spl b r with
  |[]=>[[c]]
  |x::xs=>(c::x)::xs
theorem zbyz(b:UInt8): ∀l,∃xs y,spl b l=xs++[y]∧ ∀c,spl b (l++[c])=if c=b then xs++[y,[]]else xs++[y++[c]]
 |[]=>⟨[],[],rfl,fun c=>by
   by_cases h:c=b
   ·simp[spl,h]
   simp[spl,h]⟩
 |d::r=>by
  obtain ⟨xs,y,h1,h2⟩:=zbyz b r
  by_cases hd:d=b
  ·refine ⟨[]::xs,y,by simp[spl,hd,h1],fun c=> ?_⟩
   rw[List.cons_append,spl,if_pos hd,h2 c]
   split<;>simp
  cases xs with
  |nil=>
   refine ⟨[],d::y,by simp[spl,hd,h1],fun c=> ?_⟩
   rw[List.cons_append,spl,if_neg hd,h2 c]
   by_cases hc:c=b<;>simp[hc]
  |cons x xs=>
   refine ⟨(d::x)::xs,y,by simp[spl,hd,h1],fun c=> ?_⟩
   rw[List.cons_append,spl,if_neg hd,h2 c]
   by_cases hc:c=b<;>simp[hc]
theorem zrYz(b:UInt8){l xs:List _}{y:List UInt8}(h:spl b l=xs++[y])(c:UInt8):spl b (l++[c])=if c=b then xs++[y,[]]else xs++[y++[c]]:=by
 obtain ⟨xs',y',h1,h2⟩:=zbyz b l
 have e:=h.symm.trans h1
 obtain ⟨e1,e2⟩:=List.append_inj' e rfl
 cases e2
 subst e1
 exact h2 c
theorem v0z(b:UInt8): ∀{l:List UInt8},(∀c∈l,c≠b)→spl b l=[l]
 |[],_=>rfl
 |c::r,h=>by
  rw[spl,if_neg (h c List.mem_cons_self),v0z b (fun d hd=>h d (List.mem_cons_of_mem _ hd))]
theorem zfhz(b:UInt8)(m:List UInt8): ∀l,spl b (l++b::m)=spl b l++spl b m
 |[]=>by simp[spl]
 |c::r=>by
  rw[List.cons_append,spl,spl,zfhz b m r]
  split
  ·simp
  obtain ⟨xs,y,h,_⟩:=zbyz b r
  rw[h]
  cases xs<;>simp
def jl(b:UInt8):List (List UInt8)→List UInt8
 |[]=>[]
 |[x]=>x
 |x::y::r=>x++b::jl b (y::r)
theorem zpkz(b:UInt8): ∀l,jl b (spl b l)=l
 |[]=>rfl
 |c::r=>by
  have ih:=zpkz b r
  obtain ⟨xs,y,h,_⟩:=zbyz b r
  by_cases hc:c=b
  ·rw[spl,if_pos hc]
   rw[h]at ih⊢
   cases xs with
   |nil=>simp[jl]at ih⊢;exact ⟨hc.symm,ih⟩
   |cons x xs=>simp[jl]at ih⊢;exact ⟨hc.symm,ih⟩
  rw[spl,if_neg hc]
  rw[h]at ih⊢
  cases xs with
  |nil=>simp[jl]at ih⊢;exact ih
  |cons x xs=>cases xs<;>simp[jl]at ih⊢ <;>exact ih
theorem zedz(b:UInt8): ∀{fs:List (List UInt8)},fs≠[]→(∀x∈fs,∀c∈x,c≠b)→spl b (jl b fs)=fs
 |[],h,_=>absurd rfl h
 |[x],_,h=>v0z b (h x List.mem_cons_self)
 |x::y::r,_,h=>by
  rw[jl,zfhz,v0z b (h x List.mem_cons_self),zedz b (by simp) (fun z hz=>h z (List.mem_cons_of_mem _ hz))]
  rfl
def yUz(base:Nat):Nat→List UInt8→Option Nat
 |n,[]=>some n
 |n,c::r=>if 0≤zEz c.toNat∧zEz c.toNat<(base:Int)then yUz base (n*base+(zEz c.toNat).toNat) r else none
def z4z(base most:Nat)(l:List UInt8):Option Nat:=if l.length≤most then yUz base 0 l else none
def zGz(v:Nat):List UInt8:=if v<10 then [UInt8.ofNat (48+v)]else if v<100 then [UInt8.ofNat (48+v/10),UInt8.ofNat (48+v%10)]else [UInt8.ofNat (48+v/100),UInt8.ofNat (48+v/10%10),UInt8.ofNat (48+v%10)]
def str1(l:List UInt8):Option Nat:=if l.isEmpty then none else match z4z 10 3 l with
 |none=>none
 |some v=>if 255<v∨1<l.length∧l.head? =some 48 then none else some v
def zlzz:List UInt8→Option Nat
 |[]=>z4z 8 11 []
 |d::q=>if d=120∨d=88 then z4z 16 8 q else z4z 8 11 (d::q)
def zWz:List UInt8→Option Nat
 |[]=>none
 |c::r=>if c=48 then zlzz r else z4z 10 10 (c::r)
theorem zdaz: ∀v,v<256→str1 (zGz v)=some v:=by decide+kernel
theorem za4z: ∀v,v<256→zWz (zGz v)=some v:=by decide+kernel
theorem zrZz: ∀v,v<256→ ∀c∈zGz v,48≤c.toNat∧c.toNat≤57:=by decide+kernel
theorem zr0z: ∀v,v<256→zGz v≠[]:=by decide+kernel
theorem yvz(v:Nat):(zGz v).length≤3:=by unfold zGz;split;simp;split<;>simp
def dgU(i:Nat):UInt8:=UInt8.ofNat (48+i)
def fitB(l:List UInt8):Bool:=match str1 l with
 |none=>true
 |some v=>decide (v<256)&&decide (l=zGz v)
theorem fit1: ∀i,i<10→fitB [dgU i]=true:=by decide+kernel
theorem fit2: ∀i,i<10→ ∀j,j<10→fitB [dgU i,dgU j]=true:=by decide+kernel
theorem fit3: ∀i,i<10→ ∀j,j<10→ ∀k,k<10→fitB [dgU i,dgU j,dgU k]=true:=by decide+kernel
theorem zb3z{c:UInt8}(h:0≤zEz c.toNat∧zEz c.toNat<((10:Nat):Int)): ∃i,i<10∧c=dgU i:=by
 unfold zEz at h
 refine ⟨c.toNat-48,?_,?_⟩
 ·split at h
  ·omega
  split at h
  ·omega
  split at h<;>omega
 unfold dgU
 have:48+(c.toNat-48)=c.toNat:=by
  split at h
  ·omega
  split at h
  ·omega
  split at h<;>omega
 rw[this,UInt8.ofNat_toNat]
theorem zjDz{base:Nat}: ∀{l:List UInt8} {n v:Nat},yUz base n l=some v→ ∀c∈l,0≤zEz c.toNat∧zEz c.toNat<(base:Int)
 |[],_,_,_,c,hc=>by simp at hc
 |d::r,n,v,h,c,hc=>by
  rw[yUz]at h
  split at h
  ·rename_i hd
   rcases List.mem_cons.1 hc with rfl|hc
   ·exact hd
   exact zjDz h c hc
  cases h
theorem ztrz{l:List UInt8}{v:Nat}(h:str1 l=some v)(hb:fitB l=true):v<256∧l=zGz v:=by
 unfold fitB at hb
 rw[h]at hb
 simpa using hb
theorem zdbz{l:List UInt8}{v:Nat}(h:str1 l=some v):v<256∧l=zGz v:=by
 refine ztrz h ?_
 unfold str1 at h
 split at h
 ·cases h
 rename_i he
 unfold z4z at h
 by_cases h3:l.length≤3
 ·rw[if_pos h3]at h
  cases hd:yUz 10 0 l with
  |none=>rw[hd]at h;cases h
  |some x=>
   have hall:=zjDz hd
   match l,h3,he,hall with
   |[],_,he,_=>simp at he
   |[a],_,_,hall=>
    obtain ⟨i,hi,rfl⟩:=zb3z (hall a (by simp))
    exact fit1 i hi
   |[a,b],_,_,hall=>
    obtain ⟨i,hi,rfl⟩:=zb3z (hall a (by simp))
    obtain ⟨j,hj,rfl⟩:=zb3z (hall b (by simp))
    exact fit2 i hi j hj
   |[a,b,c],_,_,hall=>
    obtain ⟨i,hi,rfl⟩:=zb3z (hall a (by simp))
    obtain ⟨j,hj,rfl⟩:=zb3z (hall b (by simp))
    obtain ⟨k,hk,rfl⟩:=zb3z (hall c (by simp))
    exact fit3 i hi j hj k hk
   |_::_::_::_::_,h3,_,_=>simp at h3
 rw[if_neg h3]at h
 cases h
def stF:Nat→List (List UInt8)→Option Nat
 |n,[]=>some n
 |n,x::r=>match str1 x with
  |none=>none
  |some v=>stF (n*256+v) r
def p4(l:List UInt8):Option Nat:=if (spl 46 l).length=4 then stF 0 (spl 46 l)else none
def xJz(n:Nat):List UInt8:=zGz (n/16777216)++46::(zGz (n/65536%256)++46::(zGz (n/256%256)++46::zGz (n%256)))
theorem zpmz(n:Nat):xJz n=jl 46 [zGz (n/16777216),zGz (n/65536%256),zGz (n/256%256),zGz (n%256)]:=rfl
theorem zmVz{v:Nat}(hv:v<256): ∀c∈zGz v,c≠46:=by
 intro c hc h
 have:=zrZz v hv c hc
 rw[h]at this
 exact absurd this.1 (by decide)
theorem zfiz{n:Nat}(h:n<4294967296):spl 46 (xJz n)=[zGz (n/16777216),zGz (n/65536%256),zGz (n/256%256),zGz (n%256)]:=by
 rw[zpmz]
 refine zedz 46 (by simp) ?_
 intro x hx
 simp only[List.mem_cons,List.not_mem_nil,or_false]at hx
 rcases hx with rfl|rfl|rfl|rfl<;>exact zmVz (by omega)
theorem ztsz{n:Nat}(h:n<4294967296):p4 (xJz n)=some n:=by
 unfold p4
 rw[zfiz h,if_pos (by simp)]
 simp only[stF]
 rw[zdaz _ (by omega),zdaz _ (by omega),zdaz _ (by omega),zdaz _ (by omega)]
 simp only
 congr 1
 omega
theorem j4z{l:List UInt8}{n:Nat}(h:p4 l=some n):n<4294967296∧l=xJz n:=by
 unfold p4 at h
 split at h
 ·rename_i h4
  have hj:=zpkz 46 l
  generalize spl 46 l=fs at h h4 hj
  match fs,h4 with
  |[a,b,c,d],_=>
   simp only[stF]at h
   cases ha:str1 a with
   |none=>rw[ha]at h;cases h
   |some x=>
    rw[ha]at h
    simp only at h
    cases hb:str1 b with
    |none=>rw[hb]at h;cases h
    |some y=>
     rw[hb]at h
     simp only at h
     cases hc:str1 c with
     |none=>rw[hc]at h;cases h
     |some z=>
      rw[hc]at h
      simp only at h
      cases hd:str1 d with
      |none=>rw[hd]at h;cases h
      |some u=>
       rw[hd]at h
       simp only[Option.some.injEq]at h
       obtain ⟨h1,rfl⟩:=zdbz ha
       obtain ⟨h2,rfl⟩:=zdbz hb
       obtain ⟨h3,rfl⟩:=zdbz hc
       obtain ⟨h5,rfl⟩:=zdbz hd
       refine ⟨by omega,?_⟩
       rw[←hj,zpmz,←h]
       congr 5<;>congr 1<;>omega
 cases h
def loF:Nat→Nat→List (List UInt8)→Option Nat
 |_,_,[]=>none
 |n,room,[x]=>match zWz x with
  |none=>none
  |some v=>if v<room then some (n*room+v)else none
 |n,room,x::y::r=>match zWz x with
  |none=>none
  |some v=>if v<256 then loF (n*256+v) (room/256) (y::r)else none
def lo4(fs:List (List UInt8)):Option Nat:=if fs.length≤4 then loF 0 4294967296 fs else none
theorem zpnz: ∀{fs:List (List UInt8)} {n room m:Nat},loF n room fs=some m→m<(n+1)*room
 |[],_,_,_,h=>by cases h
 |[x],n,room,m,h=>by
  rw[loF]at h
  cases hx:zWz x with
  |none=>rw[hx]at h;cases h
  |some v=>
   rw[hx]at h
   simp only at h
   split at h
   ·cases h
    rw[Nat.add_mul,Nat.one_mul]
    omega
   cases h
 |x::y::r,n,room,m,h=>by
  rw[loF]at h
  cases hx:zWz x with
  |none=>rw[hx]at h;cases h
  |some v=>
   rw[hx]at h
   simp only at h
   split at h
   ·rename_i hv
    have ih:=zpnz h
    refine Nat.lt_of_lt_of_le ih ?_
    have h1:(n*256+v+1)*(room/256)≤(n*256+256)*(room/256):=Nat.mul_le_mul_right _ (by omega)
    have h2:(n*256+256)*(room/256)=(n+1)*(256*(room/256)):=by rw[←Nat.mul_assoc,Nat.add_mul n 1 256,Nat.one_mul]
    have h3:256*(room/256)≤room:=Nat.mul_div_le room 256
    exact Nat.le_trans h1 (h2▸Nat.mul_le_mul_left _ h3)
   cases h
theorem zttz{fs:List (List UInt8)}{m:Nat}(h:lo4 fs=some m):m<4294967296:=by
 unfold lo4 at h
 split at h
 ·have:=zpnz h
  omega
 cases h
theorem zr1z{n:Nat}(h:n<4294967296):lo4 (spl 46 (xJz n))=some n:=by
 rw[zfiz h]
 unfold lo4
 rw[if_pos (by simp)]
 simp only[loF]
 rw[za4z _ (by omega),za4z _ (by omega),za4z _ (by omega),za4z _ (by omega)]
 simp only
 rw[if_pos (by omega),if_pos (by omega),if_pos (by omega),if_pos (by omega)]
 congr 1
 omega
def yLz(r:Option Nat):Int:=match r with
 |none=> -1
 |some n=>n
theorem zhlz(s:ByteArray)(k:Nat)(h:k<s.size)(base n:Nat):yUz base n (s.data.toList.drop k)=
  if 0≤zEz s[k].toNat∧zEz s[k].toNat<(base:Int)then yUz base (n*base+(zEz s[k].toNat).toNat) (s.data.toList.drop (k+1))else none:=by
 rw[List.drop_eq_getElem_cons (by simpa using h),yUz]
 rfl
theorem zpoz{base most:Nat}{l:List UInt8}(h:most<l.length):z4z base most l=none:=by unfold z4z;rw[if_neg (by omega)]
theorem zmWz{base most:Nat}{l:List UInt8}(h:l.length≤most):z4z base most l=yUz base 0 l:=by unfold z4z;rw[if_pos h]
theorem zfEz{n base d k:Nat}(hb:base≤16)(hd:d<base)(hn:n<16^k):n*base+d<16^(k+1):=by
 have h1:n*base≤n*16:=Nat.mul_le_mul_left _ hb
 rw[Nat.pow_succ]
 omega
theorem zppz{k:Nat}(h:k≤11):16^k≤17592186044416:=Nat.pow_le_pow_right (by decide) h
theorem vhz(s:ByteArray)(base most:Nat)(w:World)(hb:base≤16)(hm:most≤11):
  Calls Tryz.prog 57 #[.string s,.int .i64 (base:Int),.int .i64 (most:Int)] w fun e w'=>e=.returned (.int .i64 (yLz (z4z base most s.data.toList)))∧w=w':=by
 have hsl:s.data.toList.length=s.size:=by simp
 by_cases hlen:most<s.size
 ·have HF:Hid (z4z base most s.data.toList=none):=zpoz (by omega)
  have hlen':(most:Int)<(s.size:Int):=by omega
  clear hsl
  go_enter Tryz.func57,Tryz.ntmps57
  go_wp2
  go_ret
  exact ⟨by rw[HF.out];rfl,rfl⟩
 have HF:Hid (z4z base most s.data.toList=yUz base 0 s.data.toList):=zmWz (by omega)
 have hlen': ¬(most:Int)<(s.size:Int):=by omega
 clear hsl
 go_enter Tryz.func57,Tryz.ntmps57
 go_wp2
 go_loop[7,8] (fun x i=> ∃k n:Nat,k≤s.size∧n<16^k∧i=.int .i64 k∧x=.int .i64 n∧yUz base n (s.data.toList.drop k)=yUz base 0 s.data.toList) (fun _ i=>s.size-(intOf i).toNat)
 case atStart=>exact ⟨0,0,Nat.zero_le _,by decide,rfl,rfl,rfl⟩
 obtain ⟨k,n,hk,hn,rfl,rfl,hf⟩:=hrel
 have HR:Hid (yUz base n (s.data.toList.drop k)=yUz base 0 s.data.toList):=hf
 have HN:Hid (n<16^k):=hn
 have hk11:k≤11:=by omega
 have hn2:n<17592186044416:=Nat.lt_of_lt_of_le hn (zppz hk11)
 clear hf hn
 by_cases hlt:k<s.size
 ·obtain ⟨d,hd⟩: ∃d:Nat,s[k].toNat=d:=⟨_,rfl⟩
  have hd1:(d:Int)≤255:=by have:=s[k].toNat_lt;omega
  have HD:Hid (yUz base n (s.data.toList.drop k)=if 0≤zEz d∧zEz d<(base:Int)then yUz base (n*base+(zEz d).toNat) (s.data.toList.drop (k+1))else none):=by
   show _=_
   rw[zhlz s k hlt base n,hd]
  obtain ⟨hx1,hx2⟩:=xSz d
  have CH:Hid (∀W,CS 113 #[.int .u8 (d:Int)] W (.int .i64 (zEz d))):=fun W=>zb2z d W hd1
  generalize zEz d=x at HD CH hx1 hx2
  have hki:(k:Int)<(s.size:Int):=by omega
  by_cases hx:0≤x∧x<(base:Int)
  ·obtain ⟨y,rfl⟩: ∃y:Nat,x=(y:Int):=⟨x.toNat,by omega⟩
   obtain ⟨p,hp⟩: ∃p:Nat,n*base=p:=⟨_,rfl⟩
   have HP:Hid (n*base=p):=hp
   have hp2:(n:Int)*(base:Int)=(p:Int):=by rw[←hp];simp
   have hp3:p+y<281474976710656:=by
    have h1:n*base≤n*16:=Nat.mul_le_mul_left _ hb
    omega
   have hyb: ¬(base:Int)≤(y:Int):=by omega
   have HX:Hid (y<base):=by show _<_;omega
   clear hx hp
   go_wp2_with fail
   refine (CH.out _).mono ?_
   rintro e w' ⟨rfl,rfl⟩
   go_wp2_with fail
   go_round
   case rel=>
    refine ⟨k+1,n*base+y,by omega,zfEz hb HX.out HN.out,by go_num,by rw[HP.out];go_num,?_⟩
    rw[←HR.out,HD.out,if_pos ⟨by omega,by have:=HX.out;omega⟩]
    simp
   case measure=>simp[intOf];omega
  have HZ:Hid (yUz base 0 s.data.toList=none):=by
   show _=_
   rw[←HR.out,HD.out,if_neg hx]
  have HX:Hid (¬(0≤x∧x<(base:Int))):=hx
  clear hx
  by_cases hx0:x<0
  ·go_wp2_with fail
   refine (CH.out _).mono ?_
   rintro e w' ⟨rfl,rfl⟩
   go_wp2_with fail
   go_ret
   exact ⟨by rw[HF.out,HZ.out];rfl,rfl⟩
  have hx3:(base:Int)≤x:=by have:=HX.out;omega
  go_wp2_with fail
  refine (CH.out _).mono ?_
  rintro e w' ⟨rfl,rfl⟩
  go_wp2_with fail
  go_ret
  exact ⟨by rw[HF.out,HZ.out];rfl,rfl⟩
 have HZ:Hid (yUz base 0 s.data.toList=some n):=by
  show _=_
  rw[←HR.out,List.drop_of_length_le (by simp;omega)]
  rfl
 have hki: ¬(k:Int)<(s.size:Int):=by omega
 go_wp2_with fail
 go_ret
 exact ⟨by rw[HF.out,HZ.out];rfl,rfl⟩
def y1z(r:Option Nat):Value:=match r with
 |none=> .tuple #[.int .i64 0,.bool false]
 |some n=> .tuple #[.int .i64 n,.bool true]
def alD(base:Nat)(l:List UInt8):Bool:=l.all fun c=>decide (0≤zEz c.toNat∧zEz c.toNat<(base:Int))
theorem zfFz(s:ByteArray)(k:Nat)(h:k<s.size)(base:Nat):alD base (s.data.toList.drop k)=(decide (0≤zEz s[k].toNat∧zEz s[k].toNat<(base:Int))&&alD base (s.data.toList.drop (k+1))):=by
 rw[List.drop_eq_getElem_cons (by simpa using h)]
 rfl
theorem zmXz{base:Nat}: ∀{l:List UInt8} {n:Nat},alD base l=false→yUz base n l=none
 |[],_,h=>by simp[alD]at h
 |c::r,n,h=>by
  rw[yUz]
  split
  ·rename_i hc
   refine zmXz ?_
   have h2:(decide (0≤zEz c.toNat∧zEz c.toNat<(base:Int))&&alD base r)=false:=h
   rw[decide_eq_true hc]at h2
   simpa using h2
  rfl
theorem ztuz{base:Nat}{s:ByteArray}(h:alD base s.data.toList=true)(k:Nat)(hk:k<s.size):0≤zEz s[k].toNat∧zEz s[k].toNat<(base:Int):=
 of_decide_eq_true (List.all_eq_true.1 h s[k] (by
  have hk2:k<s.data.toList.length:=by simpa using hk
  exact List.getElem_mem hk2))
theorem jez(s:ByteArray)(base:Nat)(w:World)(hs:s.size≤1048576):
  Calls Tryz.prog 247 #[.string s,.int .i64 (base:Int)] w fun e w'=>e=.returned (.bool (alD base s.data.toList))∧w=w':=by
 go_enter Tryz.func247,Tryz.ntmps247
 go_wp2
 go_loop[9] (fun i=> ∃k:Nat,k≤s.size∧i=.int .i64 k∧alD base (s.data.toList.drop k)=alD base s.data.toList) (fun i=>s.size-(intOf i).toNat)
 case atStart=>exact ⟨0,Nat.zero_le _,rfl,rfl⟩
 obtain ⟨k,hk,rfl,hf⟩:=hrel
 have HR:Hid (alD base (s.data.toList.drop k)=alD base s.data.toList):=hf
 clear hf
 by_cases hlt:k<s.size
 ·obtain ⟨d,hd⟩: ∃d:Nat,s[k].toNat=d:=⟨_,rfl⟩
  have hd1:(d:Int)≤255:=by have:=s[k].toNat_lt;omega
  have HD:Hid (alD base (s.data.toList.drop k)=(decide (0≤zEz d∧zEz d<(base:Int))&&alD base (s.data.toList.drop (k+1)))):=by
   show _=_
   rw[zfFz s k hlt base,hd]
  obtain ⟨hx1,hx2⟩:=xSz d
  have CH:Hid (∀W,CS 215 #[.int .u8 (d:Int)] W (.int .i64 (zEz d))):=fun W=>zfgz d W (by omega)
  generalize zEz d=x at HD CH hx1 hx2
  have hki:(k:Int)<(s.size:Int):=by omega
  by_cases hx0:x<0
  ·have HZ:Hid (alD base s.data.toList=false):=by
    show _=_
    rw[←HR.out,HD.out,decide_eq_false (by omega)]
    rfl
   go_wp2_with fail
   refine (CH.out _).mono ?_
   rintro e w' ⟨rfl,rfl⟩
   go_wp2_with fail
   go_ret
   exact ⟨by rw[HZ.out];rfl,rfl⟩
  by_cases hx3:(base:Int)≤x
  ·have HZ:Hid (alD base s.data.toList=false):=by
    show _=_
    rw[←HR.out,HD.out,decide_eq_false (by omega)]
    rfl
   go_wp2_with fail
   refine (CH.out _).mono ?_
   rintro e w' ⟨rfl,rfl⟩
   go_wp2_with fail
   go_ret
   exact ⟨by rw[HZ.out];rfl,rfl⟩
  have HZ:Hid (alD base (s.data.toList.drop (k+1))=alD base s.data.toList):=by
   show _=_
   rw[←HR.out,HD.out,decide_eq_true (by omega)]
   rfl
  go_wp2_with fail
  refine (CH.out _).mono ?_
  rintro e w' ⟨rfl,rfl⟩
  go_wp2_with fail
  go_round
  case rel=>exact ⟨k+1,by omega,by go_num,HZ.out⟩
  case measure=>simp[intOf];omega
 have HZ:Hid (alD base s.data.toList=true):=by
  show _=_
  rw[←HR.out,List.drop_of_length_le (by simp;omega)]
  rfl
 have hki: ¬(k:Int)<(s.size:Int):=by omega
 go_wp2_with fail
 go_ret
 exact ⟨by rw[HZ.out];rfl,rfl⟩
theorem jIz(s:ByteArray)(base most:Nat)(w:World)(hb:base≤16)(hm:most≤11):
  Calls Tryz.prog 211 #[.string s,.int .i64 (base:Int),.int .i64 (most:Int)] w fun e w'=>e=.returned (y1z (z4z base most s.data.toList))∧w=w':=by
 have hsl:s.data.toList.length=s.size:=by simp
 by_cases hlen:most<s.size
 ·have HF:Hid (z4z base most s.data.toList=none):=zpoz (by omega)
  have hlen':(most:Int)<(s.size:Int):=by omega
  clear hsl
  go_enter Tryz.func211,Tryz.ntmps211
  go_wp2
  go_ret2
  exact ⟨by rw[HF.out];rfl,rfl⟩
 have HF:Hid (z4z base most s.data.toList=yUz base 0 s.data.toList):=zmWz (by omega)
 have hlen': ¬(most:Int)<(s.size:Int):=by omega
 have hs11:s.size≤11:=by omega
 have CA:Hid (∀W,CS 247 #[.string s,.int .i64 (base:Int)] W (.bool (alD base s.data.toList))):=fun W=>jez s base W (by omega)
 clear hsl
 cases ha:alD base s.data.toList with
 |false=>
  have HZ:Hid (yUz base 0 s.data.toList=none):=zmXz ha
  rw[ha]at CA
  clear ha
  go_enter Tryz.func211,Tryz.ntmps211
  go_wp2_with fail
  refine (CA.out _).mono ?_
  rintro e w' ⟨rfl,rfl⟩
  go_wp2_with fail
  go_ret2
  exact ⟨by rw[HF.out,HZ.out];rfl,rfl⟩
 |true=>
  have HA:Hid (∀k (hk:k<s.size),0≤zEz s[k].toNat∧zEz s[k].toNat<(base:Int)):=ztuz ha
  rw[ha]at CA
  clear ha
  go_enter Tryz.func211,Tryz.ntmps211
  go_wp2_with fail
  refine (CA.out _).mono ?_
  rintro e w' ⟨rfl,rfl⟩
  go_wp2_with fail
  go_loop[8,22] (fun x i=> ∃k n:Nat,k≤s.size∧n<16^k∧i=.int .i64 k∧x=.int .i64 n∧yUz base n (s.data.toList.drop k)=yUz base 0 s.data.toList) (fun _ i=>s.size-(intOf i).toNat)
  case atStart=>exact ⟨0,0,Nat.zero_le _,by decide,rfl,rfl,rfl⟩
  obtain ⟨k,n,hk,hn,rfl,rfl,hf⟩:=hrel
  have HR:Hid (yUz base n (s.data.toList.drop k)=yUz base 0 s.data.toList):=hf
  have HN:Hid (n<16^k):=hn
  have hk11:k≤11:=by omega
  have hn2:n<17592186044416:=Nat.lt_of_lt_of_le hn (zppz hk11)
  clear hf hn
  by_cases hlt:k<s.size
  ·have hx:=HA.out k hlt
   obtain ⟨d,hd⟩: ∃d:Nat,s[k].toNat=d:=⟨_,rfl⟩
   rw[hd]at hx
   have hd1:(d:Int)≤255:=by have:=s[k].toNat_lt;omega
   have HD:Hid (yUz base n (s.data.toList.drop k)=if 0≤zEz d∧zEz d<(base:Int)then yUz base (n*base+(zEz d).toNat) (s.data.toList.drop (k+1))else none):=by
    show _=_
    rw[zhlz s k hlt base n,hd]
   obtain ⟨hx1,hx2⟩:=xSz d
   have CH:Hid (∀W,CS 215 #[.int .u8 (d:Int)] W (.int .i64 (zEz d))):=fun W=>zfgz d W (by omega)
   generalize zEz d=x at HD CH hx1 hx2 hx
   have hki:(k:Int)<(s.size:Int):=by omega
   obtain ⟨y,rfl⟩: ∃y:Nat,x=(y:Int):=⟨x.toNat,by omega⟩
   obtain ⟨p,hp⟩: ∃p:Nat,n*base=p:=⟨_,rfl⟩
   have HP:Hid (n*base=p):=hp
   have hp2:(n:Int)*(base:Int)=(p:Int):=by rw[←hp];simp
   have hp3:p+y<281474976710656:=by
    have h1:n*base≤n*16:=Nat.mul_le_mul_left _ hb
    omega
   have HX:Hid (y<base):=by show _<_;omega
   clear hx hp
   go_wp2_with fail
   refine (CH.out _).mono ?_
   rintro e w' ⟨rfl,rfl⟩
   go_wp2_with fail
   go_round
   case rel=>
    refine ⟨k+1,n*base+y,by omega,zfEz hb HX.out HN.out,by go_num,by rw[HP.out];go_num,?_⟩
    rw[←HR.out,HD.out,if_pos ⟨by omega,by have:=HX.out;omega⟩]
    simp
   case measure=>simp[intOf];omega
  have HZ:Hid (yUz base 0 s.data.toList=some n):=by
   show _=_
   rw[←HR.out,List.drop_of_length_le (by simp;omega)]
   rfl
  have hki: ¬(k:Int)<(s.size:Int):=by omega
  go_wp2_with fail
  go_ret2
  exact ⟨by rw[HF.out,HZ.out];rfl,rfl⟩
theorem zbzz(s:ByteArray)(w:World)(hlim:s.size≤281474976710656):
  Calls Tryz.prog 133 #[.string s] w fun e w'=>e=.returned (.string s)∧Below w.heap.size w w':=by
 go_enter Tryz.func133,Tryz.ntmps133
 go_wp2_with (go_at_call 182;refine (Tryz.stringslite_Clone _ _ hlim).mono ?_;rintro e w1 ⟨rfl,hb1⟩)
 go_ret
 exact ⟨rfl,hb1⟩
def zhz(s:ByteArray)(b:Int):Nat→List ByteArray×Nat
 |0=>([],0)
 |k+1=>if ((s.data.toList.getD k 0).toNat:Int)=b then ((zhz s b k).1++[s.extract (zhz s b k).2 k],k+1)else zhz s b k
def zaz(s:ByteArray)(b:Int):List ByteArray:=(zhz s b s.size).1++[s.extract (zhz s b s.size).2 s.size]
theorem yAz(s:ByteArray)(b:Int)(k:Nat):(zhz s b k).2≤k∧(zhz s b k).1.length≤k:=by
 induction k with
 |zero=>simp[zhz]
 |succ k ih=>
  unfold zhz
  split
  ·simp;omega
  omega
theorem j5z(s:ByteArray)(k:Nat)(h:k<s.size):s.data.toList.getD k 0=s[k]:=by
 have hk:k<s.data.toList.length:=by simpa using h
 rw[List.getD_eq_getElem?_getD,List.getElem?_eq_getElem hk]
 rfl
theorem xTz(s:ByteArray)(b:Int)(k:Nat)(h:k<s.size)(e:(s[k].toNat:Int)=b):zhz s b (k+1)=((zhz s b k).1++[s.extract (zhz s b k).2 k],k+1):=by
 rw[zhz,j5z s k h,if_pos e]
theorem xiz(s:ByteArray)(b:Int)(k:Nat)(h:k<s.size)(e: ¬(s[k].toNat:Int)=b):zhz s b (k+1)=zhz s b k:=by
 rw[zhz,j5z s k h,if_neg e]
theorem Tryz.infoStr:(Tryz.prog.info? 9).map (fun i=>(i.zero,i.size,i.bytes))=some (some (.string ⟨#[]⟩),1,16):=by kernel_rfl
theorem vPz(s:ByteArray): ∀u∈ #[Value.string s].toList,u.oneCell'=true:=by
 intro u hu;simp at hu;subst hu;rfl
theorem zfGz(s:ByteArray)(b:Int)(k:Nat)(hk:k=s.size){w1:World}{B:Nat}{v:Value}{e:TypeId}
  (hown:w1.ownsRow B e 1 v ((zhz s b k).1.length+1) (zrz (zhz s b k).1++[.string (s.extract (zhz s b k).2 k)])):
  w1.ownsRow B e 1 v (zaz s b).length (zrz (zaz s b)):=by
 subst hk
 unfold zaz
 rw[vXz,List.length_append]
 exact hown
theorem zfHz(s:ByteArray)(b:Int)(k:Nat)(hk:k<s.size)(h:(s[k].toNat:Int)=b){w1:World}{B:Nat}{v:Value}{e:TypeId}
  (hown:w1.ownsRow B e 1 v ((zhz s b k).1.length+1) (zrz (zhz s b k).1++[.string (s.extract (zhz s b k).2 k)])):
  w1.ownsRow B e 1 v (zhz s b (k+1)).1.length (zrz (zhz s b (k+1)).1):=by
 rw[xTz s b k hk h]
 simp only
 rw[vXz,List.length_append]
 exact hown
theorem zeIz(s:ByteArray)(b:Int)(w:World)(hs:s.size≤16777216):
  Calls Tryz.prog 93 #[.string s,.int .u8 b] w fun e w'=> ∃v,e=.returned v∧w'.ownsRow w.heap.size 9 1 v (zaz s b).length (zrz (zaz s b))∧Below w.heap.size w w':=by
 go_enter Tryz.func93,Tryz.ntmps93
 go_wp2
 go_loopw[5,6,7] (fun v f i wr=> ∃k:Nat,k≤s.size+1∧i=.int .i64 k∧(k≤s.size→f=.int .i64 (zhz s b k).2∧wr.ownsRow w.heap.size 9 1 v (zhz s b k).1.length (zrz (zhz s b k).1))∧
   (k=s.size+1→wr.ownsRow w.heap.size 9 1 v (zaz s b).length (zrz (zaz s b)))∧Below w.heap.size w wr)
  (fun _ _ i _=>s.size+1-(intOf i).toNat)
 case atStart=>exact ⟨0,Nat.zero_le _,rfl,fun _=>⟨rfl,World.ownsRow_lit w #[] 0 (Nat.le_refl _) (by decide) rfl⟩,fun h=>by omega,(Below.refl _ _).alloc (Nat.le_refl _) _⟩
 obtain ⟨k,hk,rfl,hin,hend,hbel⟩:=hrel
 by_cases hle:k≤s.size
 ·obtain ⟨rfl,hown⟩:=hin hle
  clear hend
  have hsz:=hbel.size
  obtain ⟨hf1,hf2⟩:=yAz s b k
  by_cases heq:k=s.size
  ·have hkk:((k:Int)==(s.size:Int))=true:=by simp[heq]
   have HE:Hid (k=s.size):=heq
   clear heq
   go_wp2_with (at_builtin;refine zbz _ rfl _ _ 86 rfl w.heap.size 9 (.string ⟨#[]⟩) 16 Tryz.underlying86 Tryz.infoStr rfl _ _ _ rfl hown #[.string (s.extract (zhz s b k).2 k)] 1 rfl rfl (vPz _) (by omega) (by unfold maxLen;omega) (by omega) ?_)
   intro v' w1 hown' hb1
   have R:=zfGz s b k HE.out hown'
   have B1:Below w.heap.size w w1:=hbel.trans hb1
   clear hown' hb1 hown hbel hin
   go_wp2
   go_roundw
   case rel=>exact ⟨k+1,by omega,by go_num,fun h=>by have:=HE.out;omega,fun _=>R,B1⟩
   case measure=>simp[intOf];omega
  have hkk:((k:Int)==(s.size:Int))=false:=by simp;omega
  have hlt:k<s.size:=by omega
  clear heq
  by_cases hb:(s[k].toNat:Int)=b
  ·have hbb:((s[k].toNat:Int)==b)=true:=by simp[hb]
   have HB:Hid ((s[k].toNat:Int)=b):=hb
   clear hb
   go_wp2_with (at_builtin;refine zbz _ rfl _ _ 86 rfl w.heap.size 9 (.string ⟨#[]⟩) 16 Tryz.underlying86 Tryz.infoStr rfl _ _ _ rfl hown #[.string (s.extract (zhz s b k).2 k)] 1 rfl rfl (vPz _) (by omega) (by unfold maxLen;omega) (by omega) ?_)
   intro v' w1 hown' hb1
   have R:=zfHz s b k hlt HB.out hown'
   have B1:Below w.heap.size w w1:=hbel.trans hb1
   clear hown' hb1 hown hbel hin
   go_wp2
   go_roundw
   case rel=>exact ⟨k+1,by omega,by go_num,fun _=>⟨by rw[xTz s b k hlt HB.out];go_num,R⟩,fun h=>by omega,B1⟩
   case measure=>simp[intOf];omega
  have hbb:((s[k].toNat:Int)==b)=false:=by simp[hb]
  have HB:Hid (¬(s[k].toNat:Int)=b):=hb
  clear hb hin
  go_wp2
  go_roundw
  case rel=>exact ⟨k+1,by omega,by go_num,fun _=>⟨by rw[xiz s b k hlt HB.out],by rw[xiz s b k hlt HB.out];exact hown⟩,fun h=>by omega,hbel⟩
  case measure=>simp[intOf];omega
 have hown:=hend (by omega)
 clear hin hend
 go_wp2
 go_ret
 exact ⟨_,rfl,hown,hbel⟩
theorem zeJz(s:ByteArray)(b:Int)(w:World)(hs:s.size≤16777216):
  Calls Tryz.prog 135 #[.string s,.int .u8 b] w fun e w'=> ∃v,e=.returned v∧w'.ownsRow w.heap.size 9 1 v (zaz s b).length (zrz (zaz s b))∧Below w.heap.size w w':=by
 go_enter Tryz.func135,Tryz.ntmps135
 go_wp2
 go_loopw[5,6,11] (fun v f i wr=> ∃k:Nat,k≤s.size∧i=.int .i64 k∧f=.int .i64 (zhz s b k).2∧wr.ownsRow w.heap.size 9 1 v (zhz s b k).1.length (zrz (zhz s b k).1)∧Below w.heap.size w wr)
  (fun _ _ i _=>s.size-(intOf i).toNat)
 case atStart=>exact ⟨0,Nat.zero_le _,rfl,rfl,World.ownsRow_lit w #[] 0 (Nat.le_refl _) (by decide) rfl,(Below.refl _ _).alloc (Nat.le_refl _) _⟩
 obtain ⟨k,hk,rfl,rfl,hown,hbel⟩:=hrel
 have hsz:=hbel.size
 obtain ⟨hf1,hf2⟩:=yAz s b k
 have hes:(s.extract (zhz s b k).2 k).size≤281474976710656:=by rw[ByteArray.size_extract];omega
 by_cases hlt:k<s.size
 ·by_cases hb:(s[k].toNat:Int)=b
  ·have hbb:((s[k].toNat:Int)==b)=true:=by simp[hb]
   have HB:Hid ((s[k].toNat:Int)=b):=hb
   clear hb
   go_wp2_with (first|(go_at_call 133;refine (zbzz _ _ hes).mono ?_;rintro e wc ⟨rfl,hbc⟩;have hown2:=zjz hown hbc;have hsc:=hbc.size)|(at_builtin;refine zbz _ rfl _ _ 86 rfl w.heap.size 9 (.string ⟨#[]⟩) 16 Tryz.underlying86 Tryz.infoStr rfl _ _ _ rfl hown2 #[.string (s.extract (zhz s b k).2 k)] 1 rfl rfl (vPz _) (by omega) (by unfold maxLen;omega) (by omega) ?_))
   intro v' w1 hown' hb1
   have R:=zfHz s b k hlt HB.out hown'
   have B1:Below w.heap.size w w1:=(hbel.trans (hbc.mono hsz)).trans hb1
   clear hown' hb1 hown hbel hown2 hbc
   go_wp2
   go_roundw
   case rel=>exact ⟨k+1,by omega,by go_num,by rw[xTz s b k hlt HB.out];go_num,R,B1⟩
   case measure=>simp[intOf];omega
  have hbb:((s[k].toNat:Int)==b)=false:=by simp[hb]
  have HB:Hid (¬(s[k].toNat:Int)=b):=hb
  clear hb
  go_wp2
  go_roundw
  case rel=>exact ⟨k+1,by omega,by go_num,by rw[xiz s b k hlt HB.out],by rw[xiz s b k hlt HB.out];exact hown,hbel⟩
  case measure=>simp[intOf];omega
 have he:k=s.size:=by omega
 have hes2:(s.extract (zhz s b k).2 s.size).size≤281474976710656:=by rw[ByteArray.size_extract];omega
 have HE:Hid (k=s.size):=he
 clear he
 go_wp2_with (first|(go_at_call 133;refine (zbzz _ _ hes2).mono ?_;rintro e wc ⟨rfl,hbc⟩;have hown2:=zjz hown hbc;have hsc:=hbc.size)|(at_builtin;refine zbz _ rfl _ _ 86 rfl w.heap.size 9 (.string ⟨#[]⟩) 16 Tryz.underlying86 Tryz.infoStr rfl _ _ _ rfl hown2 #[.string (s.extract (zhz s b k).2 s.size)] 1 rfl rfl (vPz _) (by omega) (by unfold maxLen;omega) (by omega) ?_))
 intro v' w1 hown' hb1
 have R:=zfGz s b k HE.out (by rw[HE.out]at hown'⊢;exact hown')
 have B1:Below w.heap.size w w1:=(hbel.trans (hbc.mono hsz)).trans hb1
 clear hown' hb1 hown hbel hown2 hbc
 go_wp2
 go_ret
 exact ⟨_,rfl,R,B1⟩
theorem jJz(s:ByteArray)(b:Int)(w:World)(hs:s.size≤1048576):
  Calls Tryz.prog 93 #[.string s,.int .u8 b] w fun e w'=> ∃v,e=.returned v∧w'.ownsRow w.heap.size 9 1 v (zaz s b).length (zrz (zaz s b))∧Below w.heap.size w w':=
 zeIz s b w (by omega)
theorem zcJz(s:ByteArray)(b:Int)(w:World)(hs:s.size≤1048576):
  Calls Tryz.prog 135 #[.string s,.int .u8 b] w fun e w'=> ∃v,e=.returned v∧w'.ownsRow w.heap.size 9 1 v (zaz s b).length (zrz (zaz s b))∧Below w.heap.size w w':=
 zeJz s b w (by omega)
theorem zAz(s:ByteArray)(a b:Nat):(s.extract a b).data.toList=(s.data.toList.take b).drop a:=by
 rw[ByteArray.data_extract,Array.toList_extract,List.drop_take]
theorem xUz(s:ByteArray)(k:Nat):(s.extract 0 k).data.toList=s.data.toList.take k:=by rw[zAz];rfl
theorem xmz(s:ByteArray)(k:Nat):(s.extract k s.size).data.toList=s.data.toList.drop k:=by rw[zAz,ynz s s.size (Nat.le_refl _)]
theorem zb4z(s:ByteArray):(⟨s.data.toList.toArray⟩:ByteArray)=s:=by cases s;simp
theorem zhmz{p:UInt8→Bool}{l:List UInt8}{k:Nat}(h: ∀c∈l.take k,p c=true):l.takeWhile p=l.take k++(l.drop k).takeWhile p∧l.dropWhile p=(l.drop k).dropWhile p:=by
 induction k generalizing l with
 |zero=>simp
 |succ k ih=>
  cases l with
  |nil=>simp
  |cons c r=>
   rw[List.take_succ_cons]at h
   have hc:=h c (by simp)
   obtain ⟨h1,h2⟩:=ih (l:=r) fun x hx=>h x (by simp[hx])
   rw[List.takeWhile_cons,List.dropWhile_cons,hc,if_pos rfl,if_pos rfl,h1,h2]
   simp
end Go.Proofs.YtgcbaphbiaimoaaGreatDoor
