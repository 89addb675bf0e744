/- JoinPlain, RowMore, DropWalk, FieldSpl, Bits, LooseWalk. -/
import Derived.Test.YtijliddchoehhaaGreatDoorQA02
import Derived.Laws.BitsAllLaws
set_option maxHeartbeats 1000000
namespace Go.Proofs.YtijliddchoehhaaGreatDoor
open Go.RowKit
def jn(sep:UInt8):List ByteArray→List UInt8
 |[]=>[]
 |x::xs=>x.data.toList++xs.flatMap fun y=>sep::y.data.toList
theorem jn_one(sep:UInt8)(x:ByteArray):jn sep ([]++[x])=x.data.toList:=by simp[jn]
theorem jn_snoc(sep:UInt8)(l:List ByteArray)(x:ByteArray)(h:l≠[]):jn sep (l++[x])=jn sep l++[sep]++x.data.toList:=by
 cases l with
 |nil=>exact absurd rfl h
 |cons y ys=>simp[jn,List.flatMap_append]
theorem fields_join(s:ByteArray)(b:Int)(hb0:0≤b)(hb1:b≤255): ∀k,k≤s.size→
  (fieldsTo s b k).2≤k∧((fieldsTo s b k).1=[]→(fieldsTo s b k).2=0)∧((fieldsTo s b k).1≠[]→jn (UInt8.ofNat b.toNat) (fieldsTo s b k).1++[UInt8.ofNat b.toNat]=s.data.toList.take (fieldsTo s b k).2)
 |0,_=>by simp[fieldsTo]
 |k+1,hk=>by
  obtain ⟨h1,h2,h3⟩:=fields_join s b hb0 hb1 k (by omega)
  by_cases e:(s[k].toNat:Int)=b
  ·rw[fieldsTo_hit s b k (by omega) e]
   refine ⟨Nat.le_refl _,fun h=>by simp at h,fun _=> ?_⟩
   have hsep:s[k]=UInt8.ofNat b.toNat:=by
    rw[←e];simp
   have hx:(s.extract (fieldsTo s b k).2 k).data.toList=(s.data.toList.take k).drop (fieldsTo s b k).2:=extract_list s _ _
   have hcat:s.data.toList.take (fieldsTo s b k).2++(s.data.toList.take k).drop (fieldsTo s b k).2=s.data.toList.take k:=by
    have:=List.take_append_drop (fieldsTo s b k).2 (s.data.toList.take k)
    rw[List.take_take,Nat.min_eq_left h1]at this
    exact this
   simp only
   by_cases hn:(fieldsTo s b k).1=[]
   ·rw[hn,jn_one,hx,h2 hn,take_snoc s k (by omega),hsep]
    simp
   rw[jn_snoc _ _ _ hn,h3 hn,hx,hcat,take_snoc s k (by omega),hsep]
  rw[fieldsTo_miss s b k (by omega) e]
  exact ⟨by omega,h2,h3⟩
theorem fieldsL_join(s:ByteArray)(b:Int)(hb0:0≤b)(hb1:b≤255):jn (UInt8.ofNat b.toNat) (fieldsL s b)=s.data.toList:=by
 obtain ⟨h1,h2,h3⟩:=fields_join s b hb0 hb1 s.size (Nat.le_refl _)
 have hx:=extract_list s (fieldsTo s b s.size).2 s.size
 rw[take_all s s.size (Nat.le_refl _)]at hx
 unfold fieldsL
 by_cases hn:(fieldsTo s b s.size).1=[]
 ·rw[hn,jn_one,hx,h2 hn];rfl
 rw[jn_snoc _ _ _ hn,h3 hn,hx,List.take_append_drop]
theorem fieldsTo_sizes(s:ByteArray)(b:Int): ∀k,∀x∈(fieldsTo s b k).1,x.size≤s.size
 |0,x,hx=>by simp[fieldsTo]at hx
 |k+1,x,hx=>by
  rw[fieldsTo]at hx
  split at hx
  ·rcases List.mem_append.1 hx with h|h
   ·exact fieldsTo_sizes s b k x h
   rw[List.mem_singleton.1 h,ByteArray.size_extract];omega
  exact fieldsTo_sizes s b k x hx
theorem fieldsL_sizes(s:ByteArray)(b:Int): ∀x∈fieldsL s b,x.size≤s.size:=by
 intro x hx
 unfold fieldsL at hx
 rcases List.mem_append.1 hx with h|h
 ·exact fieldsTo_sizes s b _ x h
 rw[List.mem_singleton.1 h,ByteArray.size_extract];omega
theorem btake_snoc(l:List ByteArray)(k:Nat)(h:k<l.length):l.take (k+1)=l.take k++[l.getD k ByteArray.empty]:=by
 rw[List.take_succ_eq_append_getElem h]
 simp[List.getD,h]
theorem str_ne{a b:ByteArray}(h: ¬a=b):(a.toList==b.toList)=false:=by
 rw[beq_eq_false_iff_ne]
 intro e
 apply h
 apply ByteArray.ext
 apply Array.ext'
 rw[←ByteArray.toList_eq,←ByteArray.toList_eq,e]
theorem str_eq{a b:ByteArray}(h:a=b):(a.toList==b.toList)=true:=by rw[h];exact beq_self_eq_true _
theorem empty_yes{u:ByteArray}(h:u.size=0):u.toList.isEmpty=true:=by
 rw[ByteArray.toList_eq,List.isEmpty_iff_length_eq_zero]
 simpa using h
theorem empty_no{u:ByteArray}(h:0<u.size):u.toList.isEmpty=false:=by
 cases he:u.toList.isEmpty with
 |false=>rfl
 |true=>
  rw[ByteArray.toList_eq,List.isEmpty_iff_length_eq_zero]at he
  have:u.size=0:=by simpa using he
  omega
theorem own_take{w:World}{B:Nat}{e:TypeId}{g n cap:Nat}{xs:List Value}(h:w.ownsRow B e 1 (.slice (some ⟨g,0,none⟩) n cap) n xs)(m:Nat)(hm:m≤n):
  w.ownsRow B e 1 (.slice (some ⟨g,0,none⟩) m cap) m (xs.take m):=by
 have hl:=h.1
 rcases h.2 with ⟨hh,_⟩|⟨g',cap',cur,hh,h1,h2,h3,h4,h5,h6⟩
 ·cases hh
 cases hh
 refine ⟨by rw[List.length_take];omega,.inr ⟨g,cap,cur,rfl,h1,h2,by omega,h4,h5,?_⟩⟩
 rw[←h6,List.take_take,Nat.mul_one,Nat.mul_one,Nat.min_eq_left hm]
theorem scells_take(fs:List ByteArray)(m:Nat):(scells fs).take m=scells (fs.take m):=by
 unfold scells
 rw[List.map_take]
theorem own_cap{w:World}{B:Nat}{e:TypeId}{g n cap:Nat}{xs:List Value}(h:w.ownsRow B e 1 (.slice (some ⟨g,0,none⟩) n cap) n xs):n≤cap:=by
 rcases h.2 with ⟨h,_⟩|⟨_,_,_,h,_,_,h3,_⟩
 ·cases h
 cases h;exact h3
def dropE(fs:List ByteArray):List ByteArray:=if 1<fs.length∧(fs.getD (fs.length-1) ByteArray.empty).size=0 then fs.take (fs.length-1)else fs
theorem dropE_pos{fs:List ByteArray}(h:0<fs.length):0<(dropE fs).length:=by
 unfold dropE
 split
 ·rw[List.length_take];omega
 exact h
theorem dropE_le(fs:List ByteArray):(dropE fs).length≤fs.length:=by
 unfold dropE
 split
 ·rw[List.length_take];omega
 exact Nat.le_refl _
theorem dropE_sizes{fs:List ByteArray}{n:Nat}(h: ∀x∈fs,x.size≤n): ∀x∈dropE fs,x.size≤n:=by
 intro x hx
 unfold dropE at hx
 split at hx
 ·exact h x (List.mem_of_mem_take hx)
 exact h x hx
theorem fields_sizes46(s:ByteArray)(hs:s.size≤1048576): ∀x∈fieldsL s 46,x.size≤1048576:=fun x hx=>Nat.le_trans (fieldsL_sizes s 46 x hx) hs
theorem implWithout(f0:List ByteArray)(B:Nat)(v:Value)(w:World)(hpos:0<f0.length)(hlen:f0.length≤1048577)(hown:w.ownsRow B 9 1 v f0.length (scells f0)):
  Calls Tryz.prog 85 #[v] w fun e w'=> ∃v',e=.returned v'∧w.ownsRow B 9 1 v' (dropE f0).length (scells (dropE f0))∧w=w':=by
 rcases own_shape hown with ⟨h,_⟩|⟨_,g,cap,rfl⟩
 ·omega
 have hcap:=own_cap hown
 by_cases hd:1<f0.length∧(f0.getD (f0.length-1) ByteArray.empty).size=0
 ·have OV:=own_take hown (f0.length-1) (by omega)
  rw[scells_take]at OV
  have HD:Hid (dropE f0=f0.take (f0.length-1)):=by show _=_;unfold dropE;rw[if_pos hd]
  have HL:Hid ((f0.take (f0.length-1)).length=f0.length-1):=by show _=_;rw[List.length_take];omega
  have hl1:0<(f0.length:Int)-1:=by omega
  have hem:=empty_yes hd.2
  have hc:=scell_at hown (f0.length-1) (by omega)
  have hi:((f0.length:Int)-1)=((f0.length-1:Nat):Int):=by omega
  generalize f0.getD (f0.length-1) ByteArray.empty=q at hc hem
  have HOV:Hid (w.ownsRow B 9 1 (.slice (some ⟨g,0,none⟩) (f0.length-1) cap) (f0.length-1) (scells (f0.take (f0.length-1)))):=OV
  clear OV hown hd
  go_enter Tryz.func85,Tryz.ntmps85
  go_wp2_with fail
  go_ret
  rw[HD.out,HL.out]
  exact ⟨_,rfl,HOV.out,rfl⟩
 have HD:Hid (dropE f0=f0):=by show _=_;unfold dropE;rw[if_neg hd]
 have HOV:Hid (w.ownsRow B 9 1 (.slice (some ⟨g,0,none⟩) f0.length cap) f0.length (scells f0)):=hown
 by_cases hl1:1<f0.length
 ·have hl1':0<(f0.length:Int)-1:=by omega
  have hem:=empty_no (u:=f0.getD (f0.length-1) ByteArray.empty) (by apply Nat.pos_of_ne_zero;intro h;exact hd ⟨hl1,h⟩)
  have hc:=scell_at hown (f0.length-1) (by omega)
  have hi:((f0.length:Int)-1)=((f0.length-1:Nat):Int):=by omega
  generalize f0.getD (f0.length-1) ByteArray.empty=q at hc hem
  clear hown hd
  go_enter Tryz.func85,Tryz.ntmps85
  go_wp2_with fail
  go_ret
  rw[HD.out]
  exact ⟨_,rfl,HOV.out,rfl⟩
 have hl1': ¬0<(f0.length:Int)-1:=by omega
 clear hown hd
 go_enter Tryz.func85,Tryz.ntmps85
 go_wp2_with fail
 go_ret
 rw[HD.out]
 exact ⟨_,rfl,HOV.out,rfl⟩
def toL(x:ByteArray):List UInt8:=x.data.toList
theorem fieldsTo_spl(s:ByteArray)(b:UInt8): ∀k,k≤s.size→(fieldsTo s (b.toNat:Int) k).2≤k∧spl b (s.data.toList.take k)=(fieldsTo s (b.toNat:Int) k).1.map toL++[(s.data.toList.take k).drop (fieldsTo s (b.toNat:Int) k).2]
 |0,_=>by simp[fieldsTo,spl]
 |k+1,hk=>by
  obtain ⟨h0,h1⟩:=fieldsTo_spl s b k (by omega)
  rw[take_snoc s k (by omega),spl_cut b h1 s[k]]
  by_cases e:s[k]=b
  ·rw[if_pos e,fieldsTo_hit s _ k (by omega) (by rw[e])]
   refine ⟨Nat.le_refl _,?_⟩
   simp only[List.map_append,List.map_cons,List.map_nil,toL,extract_list]
   rw[List.drop_of_length_le (i:=k+1) (by simp;omega)]
   simp
  have e': ¬(s[k].toNat:Int)=(b.toNat:Int):=fun h=>e (UInt8.toNat_inj.1 (by omega))
  rw[if_neg e,fieldsTo_miss s _ k (by omega) e']
  refine ⟨by omega,?_⟩
  rw[List.drop_append_of_le_length (by simp;omega)]
theorem fieldsL_spl(s:ByteArray)(b:UInt8):(fieldsL s (b.toNat:Int)).map toL=spl b s.data.toList:=by
 obtain ⟨_,h⟩:=fieldsTo_spl s b s.size (Nat.le_refl _)
 rw[take_all s s.size (Nat.le_refl _)]at h
 rw[h]
 unfold fieldsL
 rw[List.map_append]
 simp only[List.map_cons,List.map_nil,toL,extract_list,take_all s s.size (Nat.le_refl _)]
theorem fieldsL_46(s:ByteArray):(fieldsL s 46).map toL=spl 46 s.data.toList:=fieldsL_spl s 46
theorem fieldsL_58(s:ByteArray):(fieldsL s 58).map toL=spl 58 s.data.toList:=fieldsL_spl s 58
def loA(s:ByteArray):Option Nat:=lo4 ((dropE (fieldsL s 46)).map toL)
theorem loA_lt{s:ByteArray}{n:Nat}(h:loA s=some n):n<4294967296:=lo4_lt h
theorem toL_inj{a b:ByteArray}(h:toL a=toL b):a=b:=by
 apply ByteArray.ext
 exact Array.toList_inj.1 h
theorem loA_ip4{s:ByteArray}{n:Nat}(hn:n<4294967296)(h:s.data.toList=ip4L n):loA s=some n:=by
 have h1:=fieldsL_46 s
 rw[h,ip4_spl hn]at h1
 have hd:dropE (fieldsL s 46)=fieldsL s 46:=by
  unfold dropE
  rw[if_neg]
  rintro ⟨_,h2⟩
  have hl:(fieldsL s 46).length=4:=by
   have:=congrArg List.length h1
   simpa using this
  rw[hl]at h2
  have h3:toL ((fieldsL s 46).getD (4-1) ByteArray.empty)=dec3 (n%256):=by
   have:=congrArg (fun l=>l.getD 3 []) h1
   simp only[List.getD_eq_getElem?_getD,List.getElem?_map]at this⊢
   rw[List.getElem?_eq_getElem (by omega)]at this⊢
   simpa using this
  have h4:=dec3_ne (n%256) (by omega)
  apply h4
  rw[←h3]
  exact List.eq_nil_of_length_eq_zero (by simpa[toL] using h2)
 unfold loA
 rw[hd,h1,←ip4_spl hn]
 exact lo4_ip4 hn
end Go.Proofs.YtijliddchoehhaaGreatDoor
namespace Go.Proofs.YtijliddchoehhaaGreatDoor
theorem i64_wrap_small(n:Int)(h0:0≤n)(h1:n<9223372036854775808):IntKind.i64.wrap n=n:=by
 simp[IntKind.wrap,IntKind.bits,IntKind.signed];omega
theorem i64_and_nat(a b:Nat)(ha:a<9223372036854775808)(hb:b<9223372036854775808):bits .and .i64 (a:Int) (b:Int)=((a&&&b:Nat):Int):=by
 have hx:a&&&b<2^63:=Nat.and_lt_two_pow _ (by omega)
 have h1:(BitVec.ofInt 64 (a:Int)).toNat=a:=by
  rw[BitVec.ofInt_natCast,BitVec.toNat_ofNat];exact Nat.mod_eq_of_lt (by omega)
 have h2:(BitVec.ofInt 64 (b:Int)).toNat=b:=by
  rw[BitVec.ofInt_natCast,BitVec.toNat_ofNat];exact Nat.mod_eq_of_lt (by omega)
 show IntKind.i64.wrap ((BitVec.ofInt 64 (a:Int)&&&BitVec.ofInt 64 (b:Int)).toNat:Int)=_
 rw[BitVec.toNat_and,h1,h2,i64_wrap_small _ (by omega) (by omega)]
theorem i64_or_nat(a b:Nat)(ha:a<9223372036854775808)(hb:b<9223372036854775808):bits .or .i64 (a:Int) (b:Int)=((a|||b:Nat):Int):=by
 have hx:a|||b<2^63:=Nat.or_lt_two_pow (by omega) (by omega)
 have h1:(BitVec.ofInt 64 (a:Int)).toNat=a:=by
  rw[BitVec.ofInt_natCast,BitVec.toNat_ofNat];exact Nat.mod_eq_of_lt (by omega)
 have h2:(BitVec.ofInt 64 (b:Int)).toNat=b:=by
  rw[BitVec.ofInt_natCast,BitVec.toNat_ofNat];exact Nat.mod_eq_of_lt (by omega)
 show IntKind.i64.wrap ((BitVec.ofInt 64 (a:Int)|||BitVec.ofInt 64 (b:Int)).toNat:Int)=_
 rw[BitVec.toNat_or,h1,h2,i64_wrap_small _ (by omega) (by omega)]
theorem i64_low(i:Nat)(m:Nat)(hm:m=2^i-1)(x:Int)(h0:0≤x)(h1:x<9223372036854775808)(hi:m<9223372036854775808):bits .and .i64 x (m:Int)=x%((2^i:Nat):Int):=by
 obtain ⟨a,rfl⟩:=Int.eq_ofNat_of_zero_le h0
 rw[i64_and_nat a m (by omega) hi,hm,Nat.and_two_pow_sub_one_eq_mod]
 omega
theorem i64_and63(x:Int)(h0:0≤x)(h1:x<9223372036854775808):bits .and .i64 x 63=x%64:=i64_low 6 63 rfl x h0 h1 (by omega)
theorem i64_and31(x:Int)(h0:0≤x)(h1:x<9223372036854775808):bits .and .i64 x 31=x%32:=i64_low 5 31 rfl x h0 h1 (by omega)
theorem i64_and15(x:Int)(h0:0≤x)(h1:x<9223372036854775808):bits .and .i64 x 15=x%16:=i64_low 4 15 rfl x h0 h1 (by omega)
theorem i64_and7(x:Int)(h0:0≤x)(h1:x<9223372036854775808):bits .and .i64 x 7=x%8:=i64_low 3 7 rfl x h0 h1 (by omega)
theorem i64_join(i:Nat)(x y:Int)(hx0:0≤x)(hx1:x<9223372036854775808)(hx:x.toNat%2^i=0)(hy0:0≤y)(hy1:y<9223372036854775808)(hy:y.toNat<2^i):bits .or .i64 x y=x+y:=by
 obtain ⟨a,rfl⟩:=Int.eq_ofNat_of_zero_le hx0
 obtain ⟨b,rfl⟩:=Int.eq_ofNat_of_zero_le hy0
 rw[i64_or_nat a b (by omega) (by omega),nat_join i a b (by simpa using hx) (by simpa using hy)]
 omega
end Go.Proofs.YtijliddchoehhaaGreatDoor
namespace Go.Proofs.YtijliddchoehhaaGreatDoor
open Go.RowKit
theorem toL_one(s:ByteArray)(h:0<s.size):s.data.toList=s[0]::(s.extract 1 s.size).data.toList:=by
 rw[extract_list,take_all s s.size (Nat.le_refl _)]
 exact (List.drop_zero (l:=s.data.toList)).symm.trans (List.drop_eq_getElem_cons (by simpa using h))
theorem toL_two(s:ByteArray)(h:1<s.size):s.data.toList=s[0]::s[1]::(s.extract 2 s.size).data.toList:=by
 rw[extract_list,take_all s s.size (Nat.le_refl _)]
 have h1:s.data.toList.drop 0=s[0]::s.data.toList.drop (0+1):=List.drop_eq_getElem_cons (by simp;omega)
 have h2:s.data.toList.drop 1=s[1]::s.data.toList.drop (1+1):=List.drop_eq_getElem_cons (by simpa using h)
 rw[List.drop_zero]at h1
 rw[show 0+1=1 from rfl,h2]at h1
 exact h1
theorem u8_is{c d:UInt8}(h:c.toNat=d.toNat):c=d:=UInt8.toNat_inj.1 h
theorem u8_not{c d:UInt8}(h: ¬c.toNat=d.toNat):c≠d:=fun e=>h (by rw[e])
theorem loose_nil{s:ByteArray}(h:s.size=0):looseP s.data.toList=none:=by
 have:s.data.toList=[]:=List.eq_nil_of_length_eq_zero (by simpa using h)
 rw[this];rfl
theorem loose_x{s:ByteArray}(h:1<s.size)(h0:s[0].toNat=48)(h1:s[1].toNat=120∨s[1].toNat=88):looseP s.data.toList=numL 16 8 (s.extract 2 s.size).data.toList:=by
 rw[toL_two s h,looseP,if_pos (u8_is h0),loose0,if_pos]
 rcases h1 with h1|h1
 ·exact .inl (u8_is h1)
 exact .inr (u8_is h1)
theorem loose_8{s:ByteArray}(h:0<s.size)(h0:s[0].toNat=48)(h1: ¬ ∃h1:1<s.size,s[1].toNat=120∨s[1].toNat=88):looseP s.data.toList=numL 8 11 (s.extract 1 s.size).data.toList:=by
 rw[toL_one s h,looseP,if_pos (u8_is h0)]
 by_cases h2:1<s.size
 ·have e:=toL_two s h2
  rw[toL_one s h]at e
  have e':(s.extract 1 s.size).data.toList=s[1]::(s.extract 2 s.size).data.toList:=(List.cons.inj e).2
  rw[e',loose0,if_neg]
  rintro (e|e)
  ·exact h1 ⟨h2,.inl (by rw[e];rfl)⟩
  exact h1 ⟨h2,.inr (by rw[e];rfl)⟩
 have:(s.extract 1 s.size).data.toList=[]:=List.eq_nil_of_length_eq_zero (by simp;omega)
 rw[this];rfl
theorem loose_10{s:ByteArray}(h:0<s.size)(h0: ¬s[0].toNat=48):looseP s.data.toList=numL 10 10 s.data.toList:=by
 have e:=toL_one s h
 rw[e,looseP,if_neg (u8_not h0)]
theorem specLoose(s:ByteArray)(w:World)(hs:s.size≤1048576):
  Calls Tryz.prog 100 #[.string s] w fun e w'=>e=.returned (.int .i64 (numZ (looseP s.data.toList)))∧w=w':=by
 by_cases h:s.size=0
 ·have HL:Hid (looseP s.data.toList=none):=loose_nil h
  have hem:=empty_yes h
  clear h
  go_enter Tryz.func100,Tryz.ntmps100
  go_wp2_with fail
  go_ret
  exact ⟨by rw[HL.out];rfl,rfl⟩
 have hpos:0<s.size:=by omega
 have hem:=empty_no hpos
 clear h
 obtain ⟨d,hd⟩: ∃d:Nat,s[0].toNat=d:=⟨_,rfl⟩
 by_cases h0:d=48
 ·subst h0
  by_cases h1: ∃h1:1<s.size,s[1].toNat=120∨s[1].toNat=88
  ·obtain ⟨h1,hx⟩:=h1
   have HL:Hid (looseP s.data.toList=numL 16 8 (s.extract 2 s.size).data.toList):=loose_x h1 hd hx
   have CN:Hid (∀W,CS 116 #[.string (s.extract 2 s.size),.int .i64 16,.int .i64 8] W (.int .i64 (numZ (numL 16 8 (s.extract 2 s.size).data.toList)))):=fun W=>spec5Number (s.extract 2 s.size) 16 8 W (by omega) (by omega)
   generalize numL 16 8 (s.extract 2 s.size).data.toList=R at HL CN
   have h1':1<(s.size:Int):=by omega
   obtain ⟨c,hc⟩: ∃c:Nat,s[1].toNat=c:=⟨_,rfl⟩
   rw[hc]at hx
   rcases hx with rfl|rfl
   ·go_enter Tryz.func100,Tryz.ntmps100
    go_wp2_with fail
    refine (CN.out _).mono ?_
    rintro e w' ⟨rfl,rfl⟩
    go_wp2_with fail
    go_ret
    exact ⟨by rw[HL.out];rfl,rfl⟩
   go_enter Tryz.func100,Tryz.ntmps100
   go_wp2_with fail
   refine (CN.out _).mono ?_
   rintro e w' ⟨rfl,rfl⟩
   go_wp2_with fail
   go_ret
   exact ⟨by rw[HL.out];rfl,rfl⟩
  have HL:Hid (looseP s.data.toList=numL 8 11 (s.extract 1 s.size).data.toList):=loose_8 hpos hd h1
  have CN:Hid (∀W,CS 116 #[.string (s.extract 1 s.size),.int .i64 8,.int .i64 11] W (.int .i64 (numZ (numL 8 11 (s.extract 1 s.size).data.toList)))):=fun W=>spec5Number (s.extract 1 s.size) 8 11 W (by omega) (by omega)
  generalize numL 8 11 (s.extract 1 s.size).data.toList=R at HL CN
  by_cases h2:1<s.size
  ·obtain ⟨c,hc⟩: ∃c:Nat,s[1].toNat=c:=⟨_,rfl⟩
   have q1:((c:Int)==120)=false:=beq_eq_false_iff_ne.2 (fun e=>h1 ⟨h2,.inl (by omega)⟩)
   have q2:((c:Int)==88)=false:=beq_eq_false_iff_ne.2 (fun e=>h1 ⟨h2,.inr (by omega)⟩)
   have h2':1<(s.size:Int):=by omega
   clear h1
   go_enter Tryz.func100,Tryz.ntmps100
   go_wp2_with fail
   refine (CN.out _).mono ?_
   rintro e w' ⟨rfl,rfl⟩
   go_wp2_with fail
   go_ret
   exact ⟨by rw[HL.out];rfl,rfl⟩
  have h2': ¬1<(s.size:Int):=by omega
  clear h1
  go_enter Tryz.func100,Tryz.ntmps100
  go_wp2_with fail
  refine (CN.out _).mono ?_
  rintro e w' ⟨rfl,rfl⟩
  go_wp2_with fail
  go_ret
  exact ⟨by rw[HL.out];rfl,rfl⟩
 have HL:Hid (looseP s.data.toList=numL 10 10 s.data.toList):=loose_10 hpos (by rw[hd];exact h0)
 have CN:Hid (∀W,CS 116 #[.string s,.int .i64 10,.int .i64 10] W (.int .i64 (numZ (numL 10 10 s.data.toList)))):=fun W=>spec5Number s 10 10 W (by omega) (by omega)
 generalize numL 10 10 s.data.toList=R at HL CN
 have q0:((d:Int)==48)=false:=beq_eq_false_iff_ne.2 (by omega)
 clear h0
 by_cases h2:1<(s.size:Int)
 ·go_enter Tryz.func100,Tryz.ntmps100
  go_wp2_with fail
  refine (CN.out _).mono ?_
  rintro e w' ⟨rfl,rfl⟩
  go_wp2_with fail
  go_ret
  exact ⟨by rw[HL.out];rfl,rfl⟩
 go_enter Tryz.func100,Tryz.ntmps100
 go_wp2_with fail
 refine (CN.out _).mono ?_
 rintro e w' ⟨rfl,rfl⟩
 go_wp2_with fail
 go_ret
 exact ⟨by rw[HL.out];rfl,rfl⟩
theorem pre_two(s:ByteArray)(c:UInt8):Lib.hasPrefix s.data.toList [48,c]=decide (∃h:1<s.size,s[0]=48∧s[1]=c):=by
 unfold Lib.hasPrefix
 by_cases h:1<s.size
 ·rw[toL_two s h]
  generalize (s.extract 2 s.size).data.toList=r
  by_cases h1:s[0]=48∧s[1]=c
  ·rw[decide_eq_true ⟨h,h1⟩,h1.1,h1.2]
   simp[List.isPrefixOf]
  rw[decide_eq_false (fun ⟨_,e⟩=>h1 e)]
  simp only[List.isPrefixOf,Bool.and_eq_false_iff,beq_eq_false_iff_ne]
  by_cases h2:s[0]=48
  ·exact .inr (.inl fun e=>h1 ⟨h2,e.symm⟩)
  exact .inl fun e=>h2 e.symm
 rw[decide_eq_false (fun ⟨e,_⟩=>h e)]
 match hl:s.data.toList with
 |[]=>rfl
 |[a]=>simp[List.isPrefixOf]
 |a::b::r=>
  have:s.data.toList.length=s.size:=by simp
  rw[hl]at this
  simp at this
  omega
def hxA(s:ByteArray):Bool:=decide (∃h:1<s.size,s[0].toNat=48∧(s[1].toNat=120∨s[1].toNat=88))
theorem implHexAhead(s:ByteArray)(w:World):
  Calls Tryz.prog 191 #[.string s] w fun e w'=>e=.returned (.bool (hxA s))∧w=w':=by
 have CP:Hid (∀W (c:UInt8) (b:Bool),(decide (∃h:1<s.size,s[0]=48∧s[1]=c))=b→CS 193 #[.string s,.string ⟨#[48,c]⟩] W (.bool b)):=fun W c b hb=>
  (Tryz.strings_HasPrefix s ⟨#[48,c]⟩ W).mono fun e w' h=>⟨by rw[h.1,←hb,←pre_two s c],h.2.symm⟩
 by_cases h1: ∃h:1<s.size,s[0]=48∧s[1]=120
 ·have HP:Hid (decide (∃h:1<s.size,s[0]=48∧s[1]=120)=true):=decide_eq_true h1
  have HZ:Hid (hxA s=true):=decide_eq_true (by obtain ⟨a,b,c⟩:=h1;exact ⟨a,by rw[b];rfl,.inl (by rw[c];rfl)⟩)
  clear h1
  go_enter Tryz.func191,Tryz.ntmps191
  go_wp2_with fail
  refine (CP.out _ _ _ HP.out).mono ?_
  rintro e w' ⟨rfl,rfl⟩
  go_wp2_with fail
  go_ret
  exact ⟨by rw[HZ.out];rfl,rfl⟩
 have HP:Hid (decide (∃h:1<s.size,s[0]=48∧s[1]=120)=false):=decide_eq_false h1
 have HZ:Hid (hxA s=decide (∃h:1<s.size,s[0]=48∧s[1]=88)):=by
  show _=_
  unfold hxA
  refine decide_eq_decide.2 ⟨?_,?_⟩
  ·rintro ⟨a,b,c|c⟩
   ·exact absurd ⟨a,u8_is b,u8_is c⟩ h1
   exact ⟨a,u8_is b,u8_is c⟩
  rintro ⟨a,b,c⟩
  exact ⟨a,by rw[b];rfl,.inr (by rw[c];rfl)⟩
 clear h1
 generalize hb:decide (∃h:1<s.size,s[0]=48∧s[1]=88)=b at HZ
 have HB:Hid (decide (∃h:1<s.size,s[0]=48∧s[1]=88)=b):=hb
 clear hb
 go_enter Tryz.func191,Tryz.ntmps191
 go_wp2_with fail
 refine (CP.out _ _ _ HP.out).mono ?_
 rintro e w' ⟨rfl,rfl⟩
 go_wp2_with fail
 refine (CP.out _ _ _ HB.out).mono ?_
 rintro e w' ⟨rfl,rfl⟩
 go_wp2_with fail
 go_ret
 exact ⟨by rw[HZ.out];rfl,rfl⟩
end Go.Proofs.YtijliddchoehhaaGreatDoor
