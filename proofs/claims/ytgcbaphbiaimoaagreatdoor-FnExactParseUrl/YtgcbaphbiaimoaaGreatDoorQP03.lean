/- JoinPlain, RowMore, DropWalk, FieldSpl, Bits, LooseWalk. -/
import Derived.Test.YtgcbaphbiaimoaaGreatDoorQP02
import Derived.Laws.BitsAllLaws
set_option maxHeartbeats 1000000
namespace Go.Proofs.YtgcbaphbiaimoaaGreatDoor
open Go.RowKit
def jn(sep:UInt8):List ByteArray→List UInt8
 |[]=>[]
 |x::xs=>x.data.toList++xs.flatMap fun y=>sep::y.data.toList
theorem zfIz(sep:UInt8)(x:ByteArray):jn sep ([]++[x])=x.data.toList:=by simp[jn]
theorem zdcz(sep:UInt8)(l:List ByteArray)(x:ByteArray)(h:l≠[]):jn sep (l++[x])=jn sep l++[sep]++x.data.toList:=by
 cases l with
 |nil=>exact absurd rfl h
 |cons y ys=>simp[jn,List.flatMap_append]
theorem zeKz(s:ByteArray)(b:Int)(hb0:0≤b)(hb1:b≤255): ∀k,k≤s.size→
  (zhz s b k).2≤k∧((zhz s b k).1=[]→(zhz s b k).2=0)∧((zhz s b k).1≠[]→jn (UInt8.ofNat b.toNat) (zhz s b k).1++[UInt8.ofNat b.toNat]=s.data.toList.take (zhz s b k).2)
 |0,_=>by simp[zhz]
 |k+1,hk=>by
  obtain ⟨h1,h2,h3⟩:=zeKz s b hb0 hb1 k (by omega)
  by_cases e:(s[k].toNat:Int)=b
  ·rw[xTz s b k (by omega) e]
   refine ⟨Nat.le_refl _,fun h=>by simp at h,fun _=> ?_⟩
   have hsep:s[k]=UInt8.ofNat b.toNat:=by
    rw[←e];simp
   have hx:(s.extract (zhz s b k).2 k).data.toList=(s.data.toList.take k).drop (zhz s b k).2:=zAz s _ _
   have hcat:s.data.toList.take (zhz s b k).2++(s.data.toList.take k).drop (zhz s b k).2=s.data.toList.take k:=by
    have:=List.take_append_drop (zhz s b k).2 (s.data.toList.take k)
    rw[List.take_take,Nat.min_eq_left h1]at this
    exact this
   simp only
   by_cases hn:(zhz s b k).1=[]
   ·rw[hn,zfIz,hx,h2 hn,xez s k (by omega),hsep]
    simp
   rw[zdcz _ _ _ hn,h3 hn,hx,hcat,xez s k (by omega),hsep]
  rw[xiz s b k (by omega) e]
  exact ⟨by omega,h2,h3⟩
theorem zddz(s:ByteArray)(b:Int)(hb0:0≤b)(hb1:b≤255):jn (UInt8.ofNat b.toNat) (zaz s b)=s.data.toList:=by
 obtain ⟨h1,h2,h3⟩:=zeKz s b hb0 hb1 s.size (Nat.le_refl _)
 have hx:=zAz s (zhz s b s.size).2 s.size
 rw[ynz s s.size (Nat.le_refl _)]at hx
 unfold zaz
 by_cases hn:(zhz s b s.size).1=[]
 ·rw[hn,zfIz,hx,h2 hn];rfl
 rw[zdcz _ _ _ hn,h3 hn,hx,List.take_append_drop]
theorem jKz(s:ByteArray)(b:Int): ∀k,∀x∈(zhz s b k).1,x.size≤s.size
 |0,x,hx=>by simp[zhz]at hx
 |k+1,x,hx=>by
  rw[zhz]at hx
  split at hx
  ·rcases List.mem_append.1 hx with h|h
   ·exact jKz s b k x h
   rw[List.mem_singleton.1 h,ByteArray.size_extract];omega
  exact jKz s b k x hx
theorem vQz(s:ByteArray)(b:Int): ∀x∈zaz s b,x.size≤s.size:=by
 intro x hx
 unfold zaz at hx
 rcases List.mem_append.1 hx with h|h
 ·exact jKz s b _ x h
 rw[List.mem_singleton.1 h,ByteArray.size_extract];omega
theorem zcKz(l:List ByteArray)(k:Nat)(h:k<l.length):l.take (k+1)=l.take k++[l.getD k ByteArray.empty]:=by
 rw[List.take_succ_eq_append_getElem h]
 simp[List.getD,h]
theorem za5z{a b:ByteArray}(h: ¬a=b):(a.toList==b.toList)=false:=by
 rw[beq_eq_false_iff_ne]
 intro e
 apply h
 apply ByteArray.ext
 apply Array.ext'
 rw[←ByteArray.toList_eq,←ByteArray.toList_eq,e]
theorem zlAz{a b:ByteArray}(h:a=b):(a.toList==b.toList)=true:=by rw[h];exact beq_self_eq_true _
theorem zsz{u:ByteArray}(h:u.size=0):u.toList.isEmpty=true:=by
 rw[ByteArray.toList_eq,List.isEmpty_iff_length_eq_zero]
 simpa using h
theorem zvz{u:ByteArray}(h:0<u.size):u.toList.isEmpty=false:=by
 cases he:u.toList.isEmpty with
 |false=>rfl
 |true=>
  rw[ByteArray.toList_eq,List.isEmpty_iff_length_eq_zero]at he
  have:u.size=0:=by simpa using he
  omega
theorem zbAz{w:World}{B:Nat}{e:TypeId}{g n cap:Nat}{xs:List Value}(h:w.ownsRow B e 1 (.slice (some ⟨g,0,none⟩) n cap) n xs)(m:Nat)(hm:m≤n):
  w.ownsRow B e 1 (.slice (some ⟨g,0,none⟩) m cap) m (xs.take m):=by
 have hl:=h.1
 rcases h.2 with ⟨hh,_⟩|⟨g',cap',cur,hh,h1,h2,h3,h4,h5,h6⟩
 ·cases hh
 cases hh
 refine ⟨by rw[List.length_take];omega,.inr ⟨g,cap,cur,rfl,h1,h2,by omega,h4,h5,?_⟩⟩
 rw[←h6,List.take_take,Nat.mul_one,Nat.mul_one,Nat.min_eq_left hm]
theorem v1z(fs:List ByteArray)(m:Nat):(zrz fs).take m=zrz (fs.take m):=by
 unfold zrz
 rw[List.map_take]
theorem joz{w:World}{B:Nat}{e:TypeId}{g n cap:Nat}{xs:List Value}(h:w.ownsRow B e 1 (.slice (some ⟨g,0,none⟩) n cap) n xs):n≤cap:=by
 rcases h.2 with ⟨h,_⟩|⟨_,_,_,h,_,_,h3,_⟩
 ·cases h
 cases h;exact h3
def yDz(fs:List ByteArray):List ByteArray:=if 1<fs.length∧(fs.getD (fs.length-1) ByteArray.empty).size=0 then fs.take (fs.length-1)else fs
theorem zeez{fs:List ByteArray}(h:0<fs.length):0<(yDz fs).length:=by
 unfold yDz
 split
 ·rw[List.length_take];omega
 exact h
theorem zjEz(fs:List ByteArray):(yDz fs).length≤fs.length:=by
 unfold yDz
 split
 ·rw[List.length_take];omega
 exact Nat.le_refl _
theorem zeLz{fs:List ByteArray}{n:Nat}(h: ∀x∈fs,x.size≤n): ∀x∈yDz fs,x.size≤n:=by
 intro x hx
 unfold yDz at hx
 split at hx
 ·exact h x (List.mem_of_mem_take hx)
 exact h x hx
theorem xKz(s:ByteArray)(hs:s.size≤1048576): ∀x∈zaz s 46,x.size≤1048576:=fun x hx=>Nat.le_trans (vQz s 46 x hx) hs
theorem zeMz(f0:List ByteArray)(B:Nat)(v:Value)(w:World)(hpos:0<f0.length)(hlen:f0.length≤1048577)(hown:w.ownsRow B 9 1 v f0.length (zrz f0)):
  Calls Tryz.prog 280 #[v] w fun e w'=> ∃v',e=.returned v'∧w.ownsRow B 9 1 v' (yDz f0).length (zrz (yDz f0))∧w=w':=by
 rcases zpz hown with ⟨h,_⟩|⟨_,g,cap,rfl⟩
 ·omega
 have hcap:=joz hown
 by_cases hd:1<f0.length∧(f0.getD (f0.length-1) ByteArray.empty).size=0
 ·have OV:=zbAz hown (f0.length-1) (by omega)
  rw[v1z]at OV
  have HD:Hid (yDz f0=f0.take (f0.length-1)):=by show _=_;unfold yDz;rw[if_pos hd]
  have HL:Hid ((f0.take (f0.length-1)).length=f0.length-1):=by show _=_;rw[List.length_take];omega
  have hl1:0<(f0.length:Int)-1:=by omega
  have hem:=zsz hd.2
  have hc:=z0z hown (f0.length-1) (by omega)
  have hi:((f0.length:Int)-1)=((f0.length-1:Nat):Int):=by omega
  generalize f0.getD (f0.length-1) ByteArray.empty=q at hc hem
  have HOV:Hid (w.ownsRow B 9 1 (.slice (some ⟨g,0,none⟩) (f0.length-1) cap) (f0.length-1) (zrz (f0.take (f0.length-1)))):=OV
  clear OV hown hd
  go_enter Tryz.func280,Tryz.ntmps280
  go_wp2_with fail
  go_ret
  rw[HD.out,HL.out]
  exact ⟨_,rfl,HOV.out,rfl⟩
 have HD:Hid (yDz f0=f0):=by show _=_;unfold yDz;rw[if_neg hd]
 have HOV:Hid (w.ownsRow B 9 1 (.slice (some ⟨g,0,none⟩) f0.length cap) f0.length (zrz f0)):=hown
 by_cases hl1:1<f0.length
 ·have hl1':0<(f0.length:Int)-1:=by omega
  have hem:=zvz (u:=f0.getD (f0.length-1) ByteArray.empty) (by apply Nat.pos_of_ne_zero;intro h;exact hd ⟨hl1,h⟩)
  have hc:=z0z hown (f0.length-1) (by omega)
  have hi:((f0.length:Int)-1)=((f0.length-1:Nat):Int):=by omega
  generalize f0.getD (f0.length-1) ByteArray.empty=q at hc hem
  clear hown hd
  go_enter Tryz.func280,Tryz.ntmps280
  go_wp2_with fail
  go_ret
  rw[HD.out]
  exact ⟨_,rfl,HOV.out,rfl⟩
 have hl1': ¬0<(f0.length:Int)-1:=by omega
 clear hown hd
 go_enter Tryz.func280,Tryz.ntmps280
 go_wp2_with fail
 go_ret
 rw[HD.out]
 exact ⟨_,rfl,HOV.out,rfl⟩
def toL(x:ByteArray):List UInt8:=x.data.toList
theorem zdez(s:ByteArray)(b:UInt8): ∀k,k≤s.size→(zhz s (b.toNat:Int) k).2≤k∧spl b (s.data.toList.take k)=(zhz s (b.toNat:Int) k).1.map toL++[(s.data.toList.take k).drop (zhz s (b.toNat:Int) k).2]
 |0,_=>by simp[zhz,spl]
 |k+1,hk=>by
  obtain ⟨h0,h1⟩:=zdez s b k (by omega)
  rw[xez s k (by omega),zrYz b h1 s[k]]
  by_cases e:s[k]=b
  ·rw[if_pos e,xTz s _ k (by omega) (by rw[e])]
   refine ⟨Nat.le_refl _,?_⟩
   simp only[List.map_append,List.map_cons,List.map_nil,toL,zAz]
   rw[List.drop_of_length_le (i:=k+1) (by simp;omega)]
   simp
  have e': ¬(s[k].toNat:Int)=(b.toNat:Int):=fun h=>e (UInt8.toNat_inj.1 (by omega))
  rw[if_neg e,xiz s _ k (by omega) e']
  refine ⟨by omega,?_⟩
  rw[List.drop_append_of_le_length (by simp;omega)]
theorem zbBz(s:ByteArray)(b:UInt8):(zaz s (b.toNat:Int)).map toL=spl b s.data.toList:=by
 obtain ⟨_,h⟩:=zdez s b s.size (Nat.le_refl _)
 rw[ynz s s.size (Nat.le_refl _)]at h
 rw[h]
 unfold zaz
 rw[List.map_append]
 simp only[List.map_cons,List.map_nil,toL,zAz,ynz s s.size (Nat.le_refl _)]
theorem zcLz(s:ByteArray):(zaz s 46).map toL=spl 46 s.data.toList:=zbBz s 46
theorem zlBz(s:ByteArray):(zaz s 58).map toL=spl 58 s.data.toList:=zbBz s 58
def loA(s:ByteArray):Option Nat:=lo4 ((yDz (zaz s 46)).map toL)
theorem zlCz{s:ByteArray}{n:Nat}(h:loA s=some n):n<4294967296:=zttz h
theorem zIz{a b:ByteArray}(h:toL a=toL b):a=b:=by
 apply ByteArray.ext
 exact Array.toList_inj.1 h
theorem ziwz{s:ByteArray}{n:Nat}(hn:n<4294967296)(h:s.data.toList=xJz n):loA s=some n:=by
 have h1:=zcLz s
 rw[h,zfiz hn]at h1
 have hd:yDz (zaz s 46)=zaz s 46:=by
  unfold yDz
  rw[if_neg]
  rintro ⟨_,h2⟩
  have hl:(zaz s 46).length=4:=by
   have:=congrArg List.length h1
   simpa using this
  rw[hl]at h2
  have h3:toL ((zaz s 46).getD (4-1) ByteArray.empty)=zGz (n%256):=by
   have:=congrArg (fun l=>l.getD 3 []) h1
   simp only[List.getD_eq_getElem?_getD,List.getElem?_map]at this⊢
   rw[List.getElem?_eq_getElem (by omega)]at this⊢
   simpa using this
  have h4:=zr0z (n%256) (by omega)
  apply h4
  rw[←h3]
  exact List.eq_nil_of_length_eq_zero (by simpa[toL] using h2)
 unfold loA
 rw[hd,h1,←zfiz hn]
 exact zr1z hn
theorem znWz{s:ByteArray}{n:Nat}(h:loA s=some n)(h2:xJz n=s.data.toList):p4 s.data.toList=some n:=by
 rw[←h2]
 exact ztsz (zlCz h)
theorem zpqz{s:ByteArray}{n:Nat}(h:loA s=some n)(h2: ¬xJz n=s.data.toList):p4 s.data.toList=none:=by
 cases hp:p4 s.data.toList with
 |none=>rfl
 |some m=>
  obtain ⟨h3,h4⟩:=j4z hp
  rw[ziwz h3 h4]at h
  cases h
  exact absurd h4.symm h2
theorem zlDz{s:ByteArray}(h:loA s=none):p4 s.data.toList=none:=by
 cases hp:p4 s.data.toList with
 |none=>rfl
 |some m=>
  obtain ⟨h3,h4⟩:=j4z hp
  rw[ziwz h3 h4]at h
  cases h
end Go.Proofs.YtgcbaphbiaimoaaGreatDoor
namespace Go.Proofs.YtgcbaphbiaimoaaGreatDoor
theorem ywz(n:Int)(h0:0≤n)(h1:n<9223372036854775808):IntKind.i64.wrap n=n:=by
 simp[IntKind.wrap,IntKind.bits,IntKind.signed];omega
theorem zjFz(a b:Nat)(ha:a<9223372036854775808)(hb:b<9223372036854775808):bits .and .i64 (a:Int) (b:Int)=((a&&&b:Nat):Int):=by
 have hx:a&&&b<2^63:=Nat.and_lt_two_pow _ (by omega)
 have h1:(BitVec.ofInt 64 (a:Int)).toNat=a:=by
  rw[BitVec.ofInt_natCast,BitVec.toNat_ofNat];exact Nat.mod_eq_of_lt (by omega)
 have h2:(BitVec.ofInt 64 (b:Int)).toNat=b:=by
  rw[BitVec.ofInt_natCast,BitVec.toNat_ofNat];exact Nat.mod_eq_of_lt (by omega)
 show IntKind.i64.wrap ((BitVec.ofInt 64 (a:Int)&&&BitVec.ofInt 64 (b:Int)).toNat:Int)=_
 rw[BitVec.toNat_and,h1,h2,ywz _ (by omega) (by omega)]
theorem zlEz(a b:Nat)(ha:a<9223372036854775808)(hb:b<9223372036854775808):bits .or .i64 (a:Int) (b:Int)=((a|||b:Nat):Int):=by
 have hx:a|||b<2^63:=Nat.or_lt_two_pow (by omega) (by omega)
 have h1:(BitVec.ofInt 64 (a:Int)).toNat=a:=by
  rw[BitVec.ofInt_natCast,BitVec.toNat_ofNat];exact Nat.mod_eq_of_lt (by omega)
 have h2:(BitVec.ofInt 64 (b:Int)).toNat=b:=by
  rw[BitVec.ofInt_natCast,BitVec.toNat_ofNat];exact Nat.mod_eq_of_lt (by omega)
 show IntKind.i64.wrap ((BitVec.ofInt 64 (a:Int)|||BitVec.ofInt 64 (b:Int)).toNat:Int)=_
 rw[BitVec.toNat_or,h1,h2,ywz _ (by omega) (by omega)]
theorem jpz(i:Nat)(m:Nat)(hm:m=2^i-1)(x:Int)(h0:0≤x)(h1:x<9223372036854775808)(hi:m<9223372036854775808):bits .and .i64 x (m:Int)=x%((2^i:Nat):Int):=by
 obtain ⟨a,rfl⟩:=Int.eq_ofNat_of_zero_le h0
 rw[zjFz a m (by omega) hi,hm,Nat.and_two_pow_sub_one_eq_mod]
 omega
theorem zefz(x:Int)(h0:0≤x)(h1:x<9223372036854775808):bits .and .i64 x 63=x%64:=jpz 6 63 rfl x h0 h1 (by omega)
theorem znXz(x:Int)(h0:0≤x)(h1:x<9223372036854775808):bits .and .i64 x 31=x%32:=jpz 5 31 rfl x h0 h1 (by omega)
theorem znYz(x:Int)(h0:0≤x)(h1:x<9223372036854775808):bits .and .i64 x 15=x%16:=jpz 4 15 rfl x h0 h1 (by omega)
theorem zprz(x:Int)(h0:0≤x)(h1:x<9223372036854775808):bits .and .i64 x 7=x%8:=jpz 3 7 rfl x h0 h1 (by omega)
theorem x4z(i:Nat)(x y:Int)(hx0:0≤x)(hx1:x<9223372036854775808)(hx:x.toNat%2^i=0)(hy0:0≤y)(hy1:y<9223372036854775808)(hy:y.toNat<2^i):bits .or .i64 x y=x+y:=by
 obtain ⟨a,rfl⟩:=Int.eq_ofNat_of_zero_le hx0
 obtain ⟨b,rfl⟩:=Int.eq_ofNat_of_zero_le hy0
 rw[zlEz a b (by omega) (by omega),nat_join i a b (by simpa using hx) (by simpa using hy)]
 omega
end Go.Proofs.YtgcbaphbiaimoaaGreatDoor
namespace Go.Proofs.YtgcbaphbiaimoaaGreatDoor
open Go.RowKit
theorem jqz(s:ByteArray)(h:0<s.size):s.data.toList=s[0]::(s.extract 1 s.size).data.toList:=by
 rw[zAz,ynz s s.size (Nat.le_refl _)]
 exact (List.drop_zero (l:=s.data.toList)).symm.trans (List.drop_eq_getElem_cons (by simpa using h))
theorem zixz(s:ByteArray)(h:1<s.size):s.data.toList=s[0]::s[1]::(s.extract 2 s.size).data.toList:=by
 rw[zAz,ynz s s.size (Nat.le_refl _)]
 have h1:s.data.toList.drop 0=s[0]::s.data.toList.drop (0+1):=List.drop_eq_getElem_cons (by simp;omega)
 have h2:s.data.toList.drop 1=s[1]::s.data.toList.drop (1+1):=List.drop_eq_getElem_cons (by simpa using h)
 rw[List.drop_zero]at h1
 rw[show 0+1=1 from rfl,h2]at h1
 exact h1
theorem jiz{c d:UInt8}(h:c.toNat=d.toNat):c=d:=UInt8.toNat_inj.1 h
theorem zpsz{c d:UInt8}(h: ¬c.toNat=d.toNat):c≠d:=fun e=>h (by rw[e])
theorem zhnz{s:ByteArray}(h:s.size=0):zWz s.data.toList=none:=by
 have:s.data.toList=[]:=List.eq_nil_of_length_eq_zero (by simpa using h)
 rw[this];rfl
theorem zmYz{s:ByteArray}(h:1<s.size)(h0:s[0].toNat=48)(h1:s[1].toNat=120∨s[1].toNat=88):zWz s.data.toList=z4z 16 8 (s.extract 2 s.size).data.toList:=by
 rw[zixz s h,zWz,if_pos (jiz h0),zlzz,if_pos]
 rcases h1 with h1|h1
 ·exact .inl (jiz h1)
 exact .inr (jiz h1)
theorem zmZz{s:ByteArray}(h:0<s.size)(h0:s[0].toNat=48)(h1: ¬ ∃h1:1<s.size,s[1].toNat=120∨s[1].toNat=88):zWz s.data.toList=z4z 8 11 (s.extract 1 s.size).data.toList:=by
 rw[jqz s h,zWz,if_pos (jiz h0)]
 by_cases h2:1<s.size
 ·have e:=zixz s h2
  rw[jqz s h]at e
  have e':(s.extract 1 s.size).data.toList=s[1]::(s.extract 2 s.size).data.toList:=(List.cons.inj e).2
  rw[e',zlzz,if_neg]
  rintro (e|e)
  ·exact h1 ⟨h2,.inl (by rw[e];rfl)⟩
  exact h1 ⟨h2,.inr (by rw[e];rfl)⟩
 have:(s.extract 1 s.size).data.toList=[]:=List.eq_nil_of_length_eq_zero (by simp;omega)
 rw[this];rfl
theorem zjGz{s:ByteArray}(h:0<s.size)(h0: ¬s[0].toNat=48):zWz s.data.toList=z4z 10 10 s.data.toList:=by
 have e:=jqz s h
 rw[e,zWz,if_neg (zpsz h0)]
theorem zb5z(s:ByteArray)(w:World)(hs:s.size≤1048576):
  Calls Tryz.prog 169 #[.string s] w fun e w'=>e=.returned (.int .i64 (yLz (zWz s.data.toList)))∧w=w':=by
 by_cases h:s.size=0
 ·have HL:Hid (zWz s.data.toList=none):=zhnz h
  have hem:=zsz h
  clear h
  go_enter Tryz.func169,Tryz.ntmps169
  go_wp2_with fail
  go_ret
  exact ⟨by rw[HL.out];rfl,rfl⟩
 have hpos:0<s.size:=by omega
 have hem:=zvz hpos
 clear h
 obtain ⟨d,hd⟩: ∃d:Nat,s[0].toNat=d:=⟨_,rfl⟩
 by_cases h0:d=48
 ·subst h0
  by_cases h1: ∃h1:1<s.size,s[1].toNat=120∨s[1].toNat=88
  ·obtain ⟨h1,hx⟩:=h1
   have HL:Hid (zWz s.data.toList=z4z 16 8 (s.extract 2 s.size).data.toList):=zmYz h1 hd hx
   have CN:Hid (∀W,CS 57 #[.string (s.extract 2 s.size),.int .i64 16,.int .i64 8] W (.int .i64 (yLz (z4z 16 8 (s.extract 2 s.size).data.toList)))):=fun W=>vhz (s.extract 2 s.size) 16 8 W (by omega) (by omega)
   generalize z4z 16 8 (s.extract 2 s.size).data.toList=R at HL CN
   have h1':1<(s.size:Int):=by omega
   obtain ⟨c,hc⟩: ∃c:Nat,s[1].toNat=c:=⟨_,rfl⟩
   rw[hc]at hx
   rcases hx with rfl|rfl
   ·go_enter Tryz.func169,Tryz.ntmps169
    go_wp2_with fail
    refine (CN.out _).mono ?_
    rintro e w' ⟨rfl,rfl⟩
    go_wp2_with fail
    go_ret
    exact ⟨by rw[HL.out];rfl,rfl⟩
   go_enter Tryz.func169,Tryz.ntmps169
   go_wp2_with fail
   refine (CN.out _).mono ?_
   rintro e w' ⟨rfl,rfl⟩
   go_wp2_with fail
   go_ret
   exact ⟨by rw[HL.out];rfl,rfl⟩
  have HL:Hid (zWz s.data.toList=z4z 8 11 (s.extract 1 s.size).data.toList):=zmZz hpos hd h1
  have CN:Hid (∀W,CS 57 #[.string (s.extract 1 s.size),.int .i64 8,.int .i64 11] W (.int .i64 (yLz (z4z 8 11 (s.extract 1 s.size).data.toList)))):=fun W=>vhz (s.extract 1 s.size) 8 11 W (by omega) (by omega)
  generalize z4z 8 11 (s.extract 1 s.size).data.toList=R at HL CN
  by_cases h2:1<s.size
  ·obtain ⟨c,hc⟩: ∃c:Nat,s[1].toNat=c:=⟨_,rfl⟩
   have q1:((c:Int)==120)=false:=beq_eq_false_iff_ne.2 (fun e=>h1 ⟨h2,.inl (by omega)⟩)
   have q2:((c:Int)==88)=false:=beq_eq_false_iff_ne.2 (fun e=>h1 ⟨h2,.inr (by omega)⟩)
   have h2':1<(s.size:Int):=by omega
   clear h1
   go_enter Tryz.func169,Tryz.ntmps169
   go_wp2_with fail
   refine (CN.out _).mono ?_
   rintro e w' ⟨rfl,rfl⟩
   go_wp2_with fail
   go_ret
   exact ⟨by rw[HL.out];rfl,rfl⟩
  have h2': ¬1<(s.size:Int):=by omega
  clear h1
  go_enter Tryz.func169,Tryz.ntmps169
  go_wp2_with fail
  refine (CN.out _).mono ?_
  rintro e w' ⟨rfl,rfl⟩
  go_wp2_with fail
  go_ret
  exact ⟨by rw[HL.out];rfl,rfl⟩
 have HL:Hid (zWz s.data.toList=z4z 10 10 s.data.toList):=zjGz hpos (by rw[hd];exact h0)
 have CN:Hid (∀W,CS 57 #[.string s,.int .i64 10,.int .i64 10] W (.int .i64 (yLz (z4z 10 10 s.data.toList)))):=fun W=>vhz s 10 10 W (by omega) (by omega)
 generalize z4z 10 10 s.data.toList=R at HL CN
 have q0:((d:Int)==48)=false:=beq_eq_false_iff_ne.2 (by omega)
 clear h0
 by_cases h2:1<(s.size:Int)
 ·go_enter Tryz.func169,Tryz.ntmps169
  go_wp2_with fail
  refine (CN.out _).mono ?_
  rintro e w' ⟨rfl,rfl⟩
  go_wp2_with fail
  go_ret
  exact ⟨by rw[HL.out];rfl,rfl⟩
 go_enter Tryz.func169,Tryz.ntmps169
 go_wp2_with fail
 refine (CN.out _).mono ?_
 rintro e w' ⟨rfl,rfl⟩
 go_wp2_with fail
 go_ret
 exact ⟨by rw[HL.out];rfl,rfl⟩
theorem zr2z(s:ByteArray)(c:UInt8):Lib.hasPrefix s.data.toList [48,c]=decide (∃h:1<s.size,s[0]=48∧s[1]=c):=by
 unfold Lib.hasPrefix
 by_cases h:1<s.size
 ·rw[zixz s h]
  generalize (s.extract 2 s.size).data.toList=r
  by_cases h1:s[0]=48∧s[1]=c
  ·rw[decide_eq_true ⟨h,h1⟩,h1.1,h1.2]
   simp[List.isPrefixOf]
  rw[decide_eq_false (fun ⟨_,e⟩=>h1 e)]
  simp only[List.isPrefixOf,Bool.and_eq_false_iff,beq_eq_false_iff_ne]
  by_cases h2:s[0]=48
  ·exact .inr (.inl fun e=>h1 ⟨h2,e.symm⟩)
  exact .inl fun e=>h2 e.symm
 rw[decide_eq_false (fun ⟨e,_⟩=>h e)]
 match hl:s.data.toList with
 |[]=>rfl
 |[a]=>simp[List.isPrefixOf]
 |a::b::r=>
  have:s.data.toList.length=s.size:=by simp
  rw[hl]at this
  simp at this
  omega
def hxA(s:ByteArray):Bool:=decide (∃h:1<s.size,s[0].toNat=48∧(s[1].toNat=120∨s[1].toNat=88))
theorem zdfz(s:ByteArray)(w:World):
  Calls Tryz.prog 283 #[.string s] w fun e w'=>e=.returned (.bool (hxA s))∧w=w':=by
 have CP:Hid (∀W (c:UInt8) (b:Bool),(decide (∃h:1<s.size,s[0]=48∧s[1]=c))=b→CS 83 #[.string s,.string ⟨#[48,c]⟩] W (.bool b)):=fun W c b hb=>
  (Tryz.strings_HasPrefix s ⟨#[48,c]⟩ W).mono fun e w' h=>⟨by rw[h.1,←hb,←zr2z s c],h.2.symm⟩
 by_cases h1: ∃h:1<s.size,s[0]=48∧s[1]=120
 ·have HP:Hid (decide (∃h:1<s.size,s[0]=48∧s[1]=120)=true):=decide_eq_true h1
  have HZ:Hid (hxA s=true):=decide_eq_true (by obtain ⟨a,b,c⟩:=h1;exact ⟨a,by rw[b];rfl,.inl (by rw[c];rfl)⟩)
  clear h1
  go_enter Tryz.func283,Tryz.ntmps283
  go_wp2_with fail
  refine (CP.out _ _ _ HP.out).mono ?_
  rintro e w' ⟨rfl,rfl⟩
  go_wp2_with fail
  go_ret
  exact ⟨by rw[HZ.out];rfl,rfl⟩
 have HP:Hid (decide (∃h:1<s.size,s[0]=48∧s[1]=120)=false):=decide_eq_false h1
 have HZ:Hid (hxA s=decide (∃h:1<s.size,s[0]=48∧s[1]=88)):=by
  show _=_
  unfold hxA
  refine decide_eq_decide.2 ⟨?_,?_⟩
  ·rintro ⟨a,b,c|c⟩
   ·exact absurd ⟨a,jiz b,jiz c⟩ h1
   exact ⟨a,jiz b,jiz c⟩
  rintro ⟨a,b,c⟩
  exact ⟨a,by rw[b];rfl,.inr (by rw[c];rfl)⟩
 clear h1
 generalize hb:decide (∃h:1<s.size,s[0]=48∧s[1]=88)=b at HZ
 have HB:Hid (decide (∃h:1<s.size,s[0]=48∧s[1]=88)=b):=hb
 clear hb
 go_enter Tryz.func283,Tryz.ntmps283
 go_wp2_with fail
 refine (CP.out _ _ _ HP.out).mono ?_
 rintro e w' ⟨rfl,rfl⟩
 go_wp2_with fail
 refine (CP.out _ _ _ HB.out).mono ?_
 rintro e w' ⟨rfl,rfl⟩
 go_wp2_with fail
 go_ret
 exact ⟨by rw[HZ.out];rfl,rfl⟩
theorem znZz(s:ByteArray)(w:World)(hs:s.size≤1048576):
  Calls Tryz.prog 284 #[.string s] w fun e w'=>e=.returned (y1z (zWz s.data.toList))∧w=w':=by
 have CP:Hid (∀W (b:Bool),hxA s=b→CS 283 #[.string s] W (.bool b)):=fun W b hb=>by
  rw[←hb]
  exact zdfz s W
 by_cases h:s.size=0
 ·have HL:Hid (zWz s.data.toList=none):=zhnz h
  have hem:=zsz h
  clear h
  go_enter Tryz.func284,Tryz.ntmps284
  go_wp2_with fail
  go_ret2
  exact ⟨by rw[HL.out];rfl,rfl⟩
 have hpos:0<s.size:=by omega
 have hem:=zvz hpos
 clear h
 obtain ⟨d,hd⟩: ∃d:Nat,s[0].toNat=d:=⟨_,rfl⟩
 by_cases h0:d=48
 ·subst h0
  by_cases h1: ∃h1:1<s.size,s[1].toNat=120∨s[1].toNat=88
  ·obtain ⟨h1,hx⟩:=h1
   have HL:Hid (zWz s.data.toList=z4z 16 8 (s.extract 2 s.size).data.toList):=zmYz h1 hd hx
   have CN:Hid (∀W,CS 211 #[.string (s.extract 2 s.size),.int .i64 16,.int .i64 8] W (y1z (z4z 16 8 (s.extract 2 s.size).data.toList))):=fun W=>jIz (s.extract 2 s.size) 16 8 W (by omega) (by omega)
   generalize z4z 16 8 (s.extract 2 s.size).data.toList=R at HL CN
   have HP:Hid (hxA s=true):=decide_eq_true ⟨h1,hd,hx⟩
   clear hx
   go_enter Tryz.func284,Tryz.ntmps284
   go_wp2_with fail
   refine (CP.out _ _ HP.out).mono ?_
   rintro e w' ⟨rfl,rfl⟩
   go_wp2_with fail
   refine (CN.out _).mono ?_
   rintro e w' ⟨rfl,rfl⟩
   cases R<;>(simp only[y1z]at HL⊢;go_wp2_with fail;go_ret2;exact ⟨by rw[HL.out];rfl,rfl⟩)
  have HL:Hid (zWz s.data.toList=z4z 8 11 (s.extract 1 s.size).data.toList):=zmZz hpos hd h1
  have CN:Hid (∀W,CS 211 #[.string (s.extract 1 s.size),.int .i64 8,.int .i64 11] W (y1z (z4z 8 11 (s.extract 1 s.size).data.toList))):=fun W=>jIz (s.extract 1 s.size) 8 11 W (by omega) (by omega)
  generalize z4z 8 11 (s.extract 1 s.size).data.toList=R at HL CN
  have HP:Hid (hxA s=false):=decide_eq_false (fun ⟨h,_,e⟩=>h1 ⟨h,e⟩)
  clear h1
  go_enter Tryz.func284,Tryz.ntmps284
  go_wp2_with fail
  refine (CP.out _ _ HP.out).mono ?_
  rintro e w' ⟨rfl,rfl⟩
  go_wp2_with fail
  refine (CN.out _).mono ?_
  rintro e w' ⟨rfl,rfl⟩
  cases R<;>(simp only[y1z]at HL⊢;go_wp2_with fail;go_ret2;exact ⟨by rw[HL.out];rfl,rfl⟩)
 have HL:Hid (zWz s.data.toList=z4z 10 10 s.data.toList):=zjGz hpos (by rw[hd];exact h0)
 have CN:Hid (∀W,CS 211 #[.string s,.int .i64 10,.int .i64 10] W (y1z (z4z 10 10 s.data.toList))):=fun W=>jIz s 10 10 W (by omega) (by omega)
 generalize z4z 10 10 s.data.toList=R at HL CN
 have HP:Hid (hxA s=false):=decide_eq_false (fun ⟨h,e,_⟩=>h0 (by rw[←hd,e]))
 have q0:((d:Int)==48)=false:=beq_eq_false_iff_ne.2 (by omega)
 clear h0
 go_enter Tryz.func284,Tryz.ntmps284
 go_wp2_with fail
 refine (CP.out _ _ HP.out).mono ?_
 rintro e w' ⟨rfl,rfl⟩
 go_wp2_with fail
 refine (CN.out _).mono ?_
 rintro e w' ⟨rfl,rfl⟩
 cases R<;>(simp only[y1z]at HL⊢;go_wp2_with fail;go_ret2;exact ⟨by rw[HL.out];rfl,rfl⟩)
end Go.Proofs.YtgcbaphbiaimoaaGreatDoor
