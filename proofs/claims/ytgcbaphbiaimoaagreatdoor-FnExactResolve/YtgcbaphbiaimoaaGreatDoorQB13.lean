/- TrimWalk, KeepSpec, UntilWalk, PctWalk, UnWalk, PutPct, PercentWalk, PlainlyWalk. -/
import Derived.Lib.SlTrimSet
import Derived.Test.YtgcbaphbiaimoaaGreatDoorQB05
import Derived.Deep.RegionLaw
set_option maxHeartbeats 4000000
namespace Go.Proofs.YtgcbaphbiaimoaaGreatDoor
open Go.Value renaming int->I,string->L,bool->H
open Go.IntKind renaming i64->J
open Go.Ending renaming returned->Y
open Go.Obj renaming cells->Z
open _root_.Go.RowKit.Below renaming refl->zc
open _root_.Bool renaming eq_iff_iff->zj
open _root_.Int renaming eq_ofNat_of_zero_le->zh
open _root_.List renaming append_assoc->zo,drop_of_length_le->zi,getElem?_take->zm,length_append->zg,length_reverse->zl,length_take->zp
open _root_.Nat renaming le_refl->zd,zero_le->ze
open _root_.UInt8 renaming ofNat->za,toNat_inj->zf
open _root_.Go.World renaming cell?_alloc_at->zk,ownsRow_lit->zn
open _root_.Go.Proofs.Tryz
open _root_.Go.Proofs.YtgcbaphbiaimoaaGreatDoor.Tryz
open Go.RowKit
def cQ:List UInt8:=[32,9,10,13]
def eC(c:UInt8):Prop:=c.toNat=32∨c.toNat=9∨c.toNat=10∨c.toNat=13
theorem uF{c:UInt8}(h:eC c):cQ.contains c=true:=by
 rcases h with h|h|h|h
 .rw[show c=32 from zf.1 (by rw[h];rfl)];rfl
 .rw[show c=9 from zf.1 (by rw[h];rfl)];rfl
 .rw[show c=10 from zf.1 (by rw[h];rfl)];rfl
 rw[show c=13 from zf.1 (by rw[h];rfl)];rfl
theorem UO{c:UInt8}(h: ¬eC c):cQ.contains c=false:=by
 unfold eC at h;simp only[cQ,List.contains_cons,List.contains_nil,Bool.or_false,Bool.or_eq_false_iff,beq_eq_false_iff_ne,ne_eq];refine ⟨?_,?_,?_,?_⟩<;>(intro e;subst e;exact h de)
theorem H6(s:ByteArray)(a b:Nat)(hab:a<=b)(hb:b<=s.size)(h1: ∀j,(hj:j<s.size)->j<a->eC s[j])(h2: ∀h:a<b,¬eC s[a])(h3: ∀j,(hj:j<s.size)->b<=j->eC s[j])(h4: ∀h:a<b,¬eC s[b-1]):
  s.extract a b=⟨(Lib.trimS s.data.toList cQ).toArray⟩:=by
 have hlen:s.data.toList.length=s.size:=by simp
 have at': ∀(j:Nat) x,s.data.toList[j]? =some x-> ∃hj:j<s.size,s[j]=x:=by
  intro j x hx;obtain ⟨hj,he⟩:=List.getElem?_eq_some_iff.1 hx;exact ⟨om,he⟩
 have key:Lib.trimS s.data.toList cQ=(s.data.toList.take b).drop a:=by
  unfold Lib.trimS
  by_cases hlt:a<b
  .have e:Lib.trimRightS s.data.toList cQ=s.data.toList.take b:=by
    refine Lib.trimRightS_take _ _ b om (fun j x hj hx=> ?_) (fun x _ hx=> ?_)
    .obtain ⟨hj',rfl⟩:=at' j x hx
     exact uF (h3 j hj' hj)
    obtain ⟨_,rfl⟩:=at' _ x hx;exact UO (h4 hlt)
   rw[e];refine Lib.trimLeftS_drop _ _ a (by rw[zp];omega) (fun j x hj hx=> ?_) (fun x hx=> ?_)
   .rw[zm,if_pos om]at hx
    obtain ⟨hj',rfl⟩:=at' j x hx;exact uF (h1 j hj' hj)
   rw[zm,if_pos hlt]at hx;obtain ⟨_,rfl⟩:=at' a x hx;exact UO (h2 hlt)
  have e:Lib.trimRightS s.data.toList cQ=s.data.toList.take 0:=by
   refine Lib.trimRightS_take _ _ 0 om (fun j x hj hx=> ?_) (fun x h _=>by omega);obtain ⟨hj',rfl⟩:=at' j x hx
   rcases Nat.lt_or_ge j a with h|h
   .exact uF (h1 j hj' h)
   exact uF (h3 j hj' om)
  rw[e,List.drop_eq_nil_of_le (by rw[zp];omega)];rfl
 rw[key];apply ByteArray.ext;rw[ByteArray.data_extract];apply Array.ext';rw[Array.toList_extract,List.drop_take]
theorem BX(c:UInt8)(w:World)(h:eC c):Calls prog 166 #[.int .u8 (c.toNat:Int)] w fun e w'=>e=Y (H true)/\w=w':=by
 by_cases a:(c.toNat:Int)=32
 .have a':((c.toNat:Int)==32)=true:=by simp[a]
  clear a h;go_enter func166,ntmps166;go_wp2;go_ret;exact ⟨rfl,rfl⟩
 have a':((c.toNat:Int)==32)=false:=by simp[a]
 by_cases b:(c.toNat:Int)=9
 .have b':((c.toNat:Int)==9)=true:=by simp[b]
  clear a b h;go_enter func166,ntmps166;go_wp2;go_ret;exact ⟨rfl,rfl⟩
 have b':((c.toNat:Int)==9)=false:=by simp[b]
 by_cases d:(c.toNat:Int)=10
 .have d':((c.toNat:Int)==10)=true:=by simp[d]
  clear a b d h;go_enter func166,ntmps166;go_wp2;go_ret;exact ⟨rfl,rfl⟩
 have d':((c.toNat:Int)==10)=false:=by simp[d]
 have e':((c.toNat:Int)==13)=true:=by
  unfold eC at h;simp;omega
 clear a b d h;go_enter func166,ntmps166;go_wp2;go_ret;exact ⟨rfl,rfl⟩
theorem GQ(c:UInt8)(w:World)(h: ¬eC c):Calls prog 166 #[.int .u8 (c.toNat:Int)] w fun e w'=>e=Y (H false)/\w=w':=by
 unfold eC at h;have a':((c.toNat:Int)==32)=false:=by simp;omega
 have b':((c.toNat:Int)==9)=false:=by simp;omega
 have d':((c.toNat:Int)==10)=false:=by simp;omega
 have e':((c.toNat:Int)==13)=false:=by simp;omega
 clear h;go_enter func166,ntmps166;go_wp2;go_ret;exact ⟨rfl,rfl⟩
theorem Cs(s:ByteArray)(w:World)(hs:s.size<=1099511627776):Calls prog 112 #[L s] w fun e w'=>e=Y (L ⟨(Lib.trimS s.data.toList cQ).toArray⟩)/\w=w':=by
 go_enter func112,ntmps112;go_wp2
 go_loop[3] (fun i=> ∃k:Nat,k<=s.size/\i=I J k/\ ∀j,(hj:j<s.size)->j<k->eC s[j]) (fun i=>s.size-(intOf i).toNat)
 case atStart=>exact ⟨0,ze _,rfl,fun j _ h=>by omega⟩
 obtain ⟨k,hk,rfl,hall⟩:=hrel;have HA:Hid (∀j,(hj:j<s.size)->j<k->eC s[j]):=hall;clear hall
 by_cases hlt:k<s.size
 .by_cases hb:eC s[k]
  .have HB:Hid (eC s[k]):=hb
   clear hb;go_wp2_with (go_at_call 166;refine j5 (BX _ _ HB.out) ?_);go_round
   case rel=>
    refine ⟨k+1,om,gn,fun j hj h=> ?_⟩
    by_cases e:j=k
    .subst e;exact HB.out
    exact HA.out j hj om
   case measure=>exact j1
  have HB:Hid (∀h:k<s.size,¬eC s[k]):=fun _=>hb
  have HB1:Hid (¬eC s[k]):=hb;clear hb;go_wp2_with (go_at_call 166;refine j5 (GQ _ _ HB1.out) ?_)
  go_loop[4] (fun i=> ∃m:Nat,k<m/\m<=s.size/\i=I J m/\ ∀j,(hj:j<s.size)->m<=j->eC s[j]) (fun i=>(intOf i).toNat)
  case atStart=>exact ⟨s.size,hlt,zd _,rfl,fun j hj h=>by omega⟩
  obtain ⟨m,hkm,hm,rfl,hall⟩:=hrel;have HC:Hid (∀j,(hj:j<s.size)->m<=j->eC s[j]):=hall;clear hall;have hm1:m-1<s.size:=om;have hcast:((m:Int)-1)=((m-1:Nat):Int):=om
  by_cases hb:eC s[m-1]
  .have HD:Hid (eC s[m-1]):=hb
   have hne:k<m-1:=by
    rcases Nat.lt_or_ge k (m-1)with h|h
    .exact h
    have e:m-1=k:=om
    have:eC s[k]:=by simpa[e] using hb
    exact absurd this HB1.out
   clear hb;go_wp2_with (go_at_call 166;refine j5 (BX _ _ HD.out) ?_);go_round
   case rel=>
    refine ⟨m-1,hne,om,gn,fun j hj h=> ?_⟩
    by_cases e:j=m-1
    .subst e;exact HD.out
    exact HC.out j hj om
   case measure=>exact j1
  have HD:Hid (¬eC s[m-1]):=hb;clear hb;go_wp2_with (go_at_call 166;refine j5 (GQ _ _ HD.out) ?_);go_ret;refine ⟨?_,rfl⟩;exact congrArg (fun b:ByteArray=>Ending.returned (L b)) (H6 s k m om hm HA.out (fun _=>HB1.out) HC.out (fun _=>HD.out))
 have hks:k=s.size:=om;have HK:Hid (k=s.size):=hks;clear hks;go_wp2;refine wp_loop_rounds 1 ?_;rw[rounds_succ];go_wp2;go_ret;refine ⟨?_,rfl⟩;exact congrArg (fun b:ByteArray=>Ending.returned (L b)) (H6 s k s.size om (zd _) HA.out (fun h=>by omega) (fun j hj h=>by omega) (fun h=>by omega))
theorem yM (l cs : List UInt8) : (Lib.trimS l cs).length <= l.length := by
 have a : ∀ m : List UInt8, (m.dropWhile (cs.contains ·)).length <= m.length := fun m => (List.dropWhile_sublist _).length_le
 unfold Lib.trimS Lib.trimLeftS Lib.trimRightS;refine Nat.le_trans (a _) ?_;rw [zl];refine Nat.le_trans (a _) ?_;rw [zl];exact zd _
theorem Ct(s:ByteArray)(w:World)(hs:s.size<=1099511627776):Calls prog 148 #[L s] w fun e w'=>e=Y (L ⟨(Lib.trimS s.data.toList cQ).toArray⟩)/\Below w.heap.size w w':=by
 have hle:(⟨(Lib.trimS s.data.toList cQ).toArray⟩:ByteArray).size<=281474976710656:=by
  have:=yM s.data.toList cQ
  have e:(⟨(Lib.trimS s.data.toList cQ).toArray⟩:ByteArray).size=(Lib.trimS s.data.toList cQ).length:=by simp[ByteArray.size]
  have e2:s.data.toList.length=s.size:=by simp
  omega
 have ct:=fun W=>Any.strings_Trim_laid lays160 kr s ⟨#[32,9,10,13]⟩ W om de (ascii_of_all de)
 have HT:Hid (∀W,CB 205 #[L s,L ⟨#[32,9,10,13]⟩] W (L ⟨(Lib.trimS s.data.toList cQ).toArray⟩)):=ct;clear ct;go_enter func148,ntmps148;go_wp2_with fail;refine (HT.out _).mono ?_;rintro e wa ⟨rfl,ba⟩;go_wp2_with fail;refine j6 (kF _ _ hle) fun wb bb=>?_
 go_wp2;go_ret;exact ⟨rfl,ba.trans (bb.mono ba.size)⟩
def uZ(c:Int):Bool:=decide (0<=c)&&fF c.toNat
theorem Cu(c:Int):eA [45,46,95,126] c=(decide (0<=c)&&kD c.toNat):=by
 rw[zj];simp[eA,kD];omega
theorem Iu(c:Int):eA [33,36,38,39,40,41,42,43,44,59,61,58,64] c=(decide (0<=c)&&pV c.toNat):=by
 rw[zj];simp[eA,pV];omega
theorem Iv(c:Int):uZ c=(iA c||decide (48<=c/\c<=57)||eA [45,46,95,126] c):=by
 rw[Cu,zj];simp[uZ,iA,fF,bI,fK,kD];omega
theorem GR(c:Int)(w:World):Calls prog 91 #[I J c] w fun e w'=>e=Y (H (uZ c))/\w=w':=by
 have HV:Hid (uZ c=(iA c||decide (48<=c/\c<=57)||eA [45,46,95,126] c)):=Iv c;have cl:=fun W=>vW c W
 have ca:=fun W=>qB ⟨#[45,46,95,126]⟩ c W de
 have CL:Hid (∀W,CS 125 #[I J c] W (H (iA c))):=cl;have CA:Hid (∀W,CS 55 #[L ⟨#[45,46,95,126]⟩,I J c] W (H (eA [45,46,95,126] c))):=ca;clear cl ca;generalize iA c=b1 at HV CL;generalize eA [45,46,95,126] c=b3 at HV CA
 cases b1 with
 |true=>
  go_enter func91,ntmps91;go_wp2_with fail;refine (CL.out _).mono ?_;rintro e w' ⟨rfl,rfl⟩;go_wp2;go_ret;exact ⟨aF (by rw[HV.out];rfl),rfl⟩
 |false=>
  by_cases h2:48<=c/\c<=57
  .rw[decide_eq_true h2]at HV
   have H2:Hid (48<=c/\c<=57):=h2;clear h2;go_enter func91,ntmps91;go_wp2_with fail;refine (CL.out _).mono ?_;rintro e w' ⟨rfl,rfl⟩;go_wp2_with fail;refine j5 (aI _ _ _ _ H2.out.1 H2.out.2) ?_;go_wp2;go_ret;exact ⟨aF (by rw[HV.out];rfl),rfl⟩
  rw[decide_eq_false h2]at HV;have H2:Hid (c<48∨57<c):=by show _∨_;omega
  clear h2;go_enter func91,ntmps91;go_wp2_with fail;refine (CL.out _).mono ?_;rintro e w' ⟨rfl,rfl⟩;go_wp2_with fail;refine j5 (aP _ _ _ _ H2.out) ?_;go_wp2_with fail;refine (CA.out _).mono ?_;rintro e w' ⟨rfl,rfl⟩;go_wp2;go_ret;exact ⟨aF (by rw[HV.out];rfl),rfl⟩
theorem Cv{set:Int}(h:1<=set/\set<=3)(c:Int):kW set c=(uZ c||eA [33,36,38,39,40,41,42,43,44,59,61,58,64] c||(decide (c=47)&&decide (set≠3))||(decide (c=63)&&decide (set=2))):=by
 rw[Iu];unfold kW dX uZ;rw[decide_eq_true h]
 by_cases h0:0<=c
 .have e1:decide (c.toNat=47)=decide (c=47):=decide_eq_decide.2 om
  have e2:decide (c.toNat=63)=decide (c=63):=decide_eq_decide.2 om;rw[e1,e2,decide_eq_true h0];rfl
 have e1:decide (c=47)=false:=decide_eq_false om;have e2:decide (c=63)=false:=decide_eq_false om;rw[e1,e2,decide_eq_false h0];rfl
theorem LZ(set c:Int)(w:World):Calls prog 90 #[I J set,I J c] w fun e w'=>e=Y (H (kW set c))/\w=w':=by
 by_cases h:1<=set/\set<=3
 .have HV:Hid (kW set c=_):=Cv h c
  have H1:Hid (1<=set/\set<=3):=h;clear h;have cl:=fun W=>GR c W
  have ca:=fun W=>qB ⟨#[33,36,38,39,40,41,42,43,44,59,61,58,64]⟩ c W de
  have CL:Hid (∀W,CS 91 #[I J c] W (H (uZ c))):=cl;have CA:Hid (∀W,CS 55 #[L ⟨#[33,36,38,39,40,41,42,43,44,59,61,58,64]⟩,I J c] W (H (eA [33,36,38,39,40,41,42,43,44,59,61,58,64] c))):=ca;clear cl ca;generalize uZ c=b1 at HV CL;generalize eA [33,36,38,39,40,41,42,43,44,59,61,58,64] c=b2 at HV CA
  cases b1 with
  |true=>
   go_enter func90,ntmps90;go_wp2_with fail;refine j5 (aI _ _ _ _ H1.out.1 H1.out.2) ?_;go_wp2_with fail;refine (CL.out _).mono ?_;rintro e w' ⟨rfl,rfl⟩;go_wp2;go_ret;exact ⟨aF (by rw[HV.out];rfl),rfl⟩
  |false=>
   cases b2 with
   |true=>
    go_enter func90,ntmps90;go_wp2_with fail;refine j5 (aI _ _ _ _ H1.out.1 H1.out.2) ?_;go_wp2_with fail;refine (CL.out _).mono ?_;rintro e w' ⟨rfl,rfl⟩;go_wp2_with fail;refine (CA.out _).mono ?_;rintro e w' ⟨rfl,rfl⟩;go_wp2;go_ret;exact ⟨aF (by rw[HV.out];rfl),rfl⟩
   |false=>
    by_cases hs:c=47
    .subst hs
     by_cases he:set=3
     .subst he
      go_enter func90,ntmps90;go_wp2_with fail;refine j5 (aI _ _ _ _ H1.out.1 H1.out.2) ?_;go_wp2_with fail;refine (CL.out _).mono ?_;rintro e w' ⟨rfl,rfl⟩;go_wp2_with fail;refine (CA.out _).mono ?_;rintro e w' ⟨rfl,rfl⟩;go_wp2;go_ret;exact ⟨aF (by first|(rw[HV.out];simp)|(rw[HV.out];decide)|decide),rfl⟩
     go_enter func90,ntmps90;go_wp2_with fail;refine j5 (aI _ _ _ _ H1.out.1 H1.out.2) ?_;go_wp2_with fail;refine (CL.out _).mono ?_;rintro e w' ⟨rfl,rfl⟩;go_wp2_with fail;refine (CA.out _).mono ?_;rintro e w' ⟨rfl,rfl⟩;go_wp2;go_ret;exact ⟨aF (by first|(rw[HV.out];simp[he])|(rw[HV.out];decide)|decide),rfl⟩
    by_cases hq:c=63
    .subst hq
     by_cases he:set=2
     .subst he
      go_enter func90,ntmps90;go_wp2_with fail;refine j5 (aI _ _ _ _ H1.out.1 H1.out.2) ?_;go_wp2_with fail;refine (CL.out _).mono ?_;rintro e w' ⟨rfl,rfl⟩;go_wp2_with fail;refine (CA.out _).mono ?_;rintro e w' ⟨rfl,rfl⟩;go_wp2;go_ret;exact ⟨aF (by first|(rw[HV.out];simp)|(rw[HV.out];decide)|decide),rfl⟩
     go_enter func90,ntmps90;go_wp2_with fail;refine j5 (aI _ _ _ _ H1.out.1 H1.out.2) ?_;go_wp2_with fail;refine (CL.out _).mono ?_;rintro e w' ⟨rfl,rfl⟩;go_wp2_with fail;refine (CA.out _).mono ?_;rintro e w' ⟨rfl,rfl⟩;go_wp2;go_ret;exact ⟨aF (by first|(rw[HV.out];simp[he])|(rw[HV.out];decide)|decide),rfl⟩
    go_enter func90,ntmps90;go_wp2_with fail;refine j5 (aI _ _ _ _ H1.out.1 H1.out.2) ?_;go_wp2_with fail;refine (CL.out _).mono ?_;rintro e w' ⟨rfl,rfl⟩;go_wp2_with fail;refine (CA.out _).mono ?_;rintro e w' ⟨rfl,rfl⟩;go_wp2;go_ret;exact ⟨aF (by first|(rw[HV.out];simp[hs,hq])|(rw[HV.out];decide)|decide),rfl⟩
 have HV:Hid (kW set c=false):=zZ c h;have H1:Hid (set<1∨3<set):=by show _∨_;omega
 clear h;go_enter func90,ntmps90;go_wp2_with fail;refine j5 (aP _ _ _ _ H1.out) ?_;go_wp2;go_ret;exact ⟨aF (by rw[HV.out]),rfl⟩
theorem AP(p:UInt8->Bool)(m s:ByteArray)(w:World)(hm:m.size<=1000)(hp: ∀c:UInt8,eA m.data.toList (c.toNat:Int)= !p c)(hs:s.size<=16777216):Calls prog 54 #[L s,L m] w fun e w'=>e=Y (.tuple #[L ⟨(s.data.toList.takeWhile p).toArray⟩,L ⟨(s.data.toList.dropWhile p).toArray⟩])/\Below w.heap.size w w':=by
 go_enter func54,ntmps54;go_wp2
 go_loop[6] (fun i=> ∃k:Nat,k<=s.size/\i=I J k/\ ∀c∈s.data.toList.take k,p c=true) (fun i=>s.size-(intOf i).toNat)
 case atStart=>exact ⟨0,ze _,rfl,fun c hc=>by cases hc⟩
 obtain ⟨k,hk,rfl,hall⟩:=hrel;have HA:Hid (∀c∈s.data.toList.take k,p c=true):=hall;clear hall
 by_cases hlt:k<s.size
 .have hdr:=fO s k hlt
  have hpc:=hp s[k];obtain ⟨d,hd⟩: ∃d:Nat,s[k].toNat=d:=⟨_,rfl⟩;rw[hd]at hpc;have CA:Hid (∀W,CS 55 #[L m,I J (d:Int)] W (H (!p s[k]))):=fun W=>by
   have h:=qB m (d:Int) W om;rw[hpc]at h;exact h
  clear hpc;have hd2:(d:Int)<256:=by have:=s[k].toNat_lt;omega
  cases hb:p s[k]with
  |true=>
   have HN:Hid (∀c∈s.data.toList.take (k+1),p c=true):=fun c hc=>by
    rw[eW s k hlt]at hc
    rcases List.mem_append.1 hc with h|h
    .exact HA.out c h
    rw[List.mem_singleton.1 h];exact hb
   rw[hb]at CA;clear hb hdr;go_wp2_with fail;refine (CA.out _).mono ?_;rintro e w' ⟨rfl,rfl⟩;go_wp2_with fail;go_round
   case rel=>exact ⟨k+1,om,gn,HN.out⟩
   case measure=>exact j1
  |false=>
   obtain ⟨h1,h2⟩:=KO HA.out;rw[hdr,List.takeWhile_cons,hb,if_neg de,List.append_nil]at h1;rw[hdr,List.dropWhile_cons,hb,if_neg de,<-hdr]at h2;have H1:Hid (s.extract 0 k=⟨(s.data.toList.takeWhile p).toArray⟩):=by show _=_;rw[h1,<-iP,rF]
   have H2:Hid (s.extract k s.size=⟨(s.data.toList.dropWhile p).toArray⟩):=by show _=_;rw[h2,<-fV,rF]
   rw[hb]at CA;clear hb hdr h1 h2;go_wp2_with fail;refine (CA.out _).mono ?_;rintro e w' ⟨rfl,rfl⟩;go_wp2
   go_region
   all_goals (try go_wp2)
   all_goals go_ret2
   all_goals exact ⟨by rw[<-H1.out,<-H2.out];rfl,(zc _ _).drew⟩
 have HN:Hid (∀c∈s.data.toList,p c=true):=fun c hc=>HA.out c (by rw[dD s k om];exact hc)
 obtain ⟨h1,h2⟩:=KO (p:=p) (l:=s.data.toList) (k:=s.size) (fun c hc=>HN.out c (List.mem_of_mem_take hc));rw[dD s s.size (zd _),zi j2]at h1;rw[zi j2]at h2;have h3:s.data.toList.takeWhile p=s.data.toList:=by rw[h1];simp
 have H1:Hid (s=⟨(s.data.toList.takeWhile p).toArray⟩):=by show _=_;rw[h3]
 have H2:Hid ((⟨#[]⟩:ByteArray)=⟨(s.data.toList.dropWhile p).toArray⟩):=by show _=_;rw[h2];rfl
 clear h1 h2 h3;go_wp2;go_ret2;exact ⟨by rw[<-H1.out,<-H2.out];rfl,zc _ _⟩
theorem pD{B:Nat}{w w':World}(h:Below B w w')(n:Nat):Below B w (w'.drewN n):=⟨h.os,h.tape,h.output,h.size,h.block⟩
theorem MA{s:ByteArray}{k:Nat}(h:k+2<s.size)(h1:s[k].toNat≠37):cI s k= -1:=by
 rw[nR s k h];unfold iY;rw[if_neg (fun h=>h1 h.1)]
theorem MB{s:ByteArray}{k d1 d2:Nat}(h:k+2<s.size)(h1:s[k].toNat=37)(e1:s[k+1].toNat=d1)(e2:s[k+2].toNat=d2):cI s k=if 0<=bP d1/\0<=bP d2 then bP d1*16+bP d2 else-1:=by
 rw[nR s k h,e1,e2];unfold iY;simp[h1]
theorem AQ(P:Program)(t:TypeId)(h:P.underlying t=some .string)(s:ByteArray)(i:Int)(j d:Nat)(hj:j<s.size)(hi:i=(j:Int))(hd:s[j].toNat=d)(W:World):
  (Instr.index t (L s) (I J i)).run P W=.ok (.int .u8 (d:Int)) W:=by
 subst hi;rw[run_index_string W t s .i64 _ h,dif_pos om];simp[hd]
theorem MC(s:ByteArray)(k:Nat)(w:World)(hk:k<s.size)(hs:s.size<=1099511627776):Calls prog 156 #[L s,I J (k:Int)] w fun e w'=>e=Y (I J (cI s k))/\Below w.heap.size w w':=by
 have hki:(k:Int)<=1099511627776:=om;have hk0:0<=(k:Int):=om;have hw1:IntKind.i64.wrap ((k:Int)+1)=((k+1:Nat):Int):=by rw[IntKind.wrap_i64];omega
 have hw2:IntKind.i64.wrap ((k:Int)+2)=((k+2:Nat):Int):=by rw[IntKind.wrap_i64];omega
 by_cases h2:k+2<s.size
 .have h2i: ¬(s.size:Int)<=(k:Int)+2:=om
  by_cases h37:s[k].toNat=37
  .obtain ⟨d1,e1⟩: ∃d:Nat,s[k+1].toNat=d:=⟨_,rfl⟩
   obtain ⟨d2,e2⟩: ∃d:Nat,s[k+2].toNat=d:=⟨_,rfl⟩;have i1:=AQ prog 9 underlying9 s ((k:Int)+1) (k+1) d1 om om e1;have i2:=AQ prog 9 underlying9 s ((k:Int)+2) (k+2) d2 om om e2;have b1:d1<=255:=by have:=s[k+1].toNat_lt;omega
   have b2:d2<=255:=by have:=s[k+2].toNat_lt;omega
   have HV:Hid (cI s k=if 0<=bP d1/\0<=bP d2 then bP d1*16+bP d2 else-1):=MB h2 h37 e1 e2;have c1:=fun n:Nat=>Calls.quiet_of_same (w:=w) (n:=n) (v:=I J (bP d1)) ((DQ d1 (w.drewN n) b1).mono fun _ _ ⟨a,b⟩=>⟨a,b.symm⟩)
   have c2:=fun n:Nat=>Calls.quiet_of_same (w:=w) (n:=n) (v:=I J (bP d2)) ((DQ d2 (w.drewN n) b2).mono fun _ _ ⟨a,b⟩=>⟨a,b.symm⟩)
   have l1:=iN d1;have l2:=iN d2;generalize bP d1=x at HV c1 l1;generalize bP d2=y at HV c2 l2;have C1:Hid (∀n,Calls prog 215 #[.int .u8 (d1:Int)] (w.drewN n) fun e w''=>e=Y (I J x)/\ ∃m,w''=w.drewN m):=c1;have C2:Hid (∀n,Calls prog 215 #[.int .u8 (d2:Int)] (w.drewN n) fun e w''=>e=Y (I J y)/\ ∃m,w''=w.drewN m):=c2;clear c1 c2;obtain ⟨l1a,l1b⟩:=l1;obtain ⟨l2a,l2b⟩:=l2
   by_cases hx:0<=x
   .by_cases hy:0<=y
    .go_enter func156,ntmps156
     go_wp2_with fail
     go_quiet ((go_at_call 215;first|with_reducible exact C1.out _|with_reducible exact C2.out _))
     go_wp2;go_ret;exact ⟨aV (by rw[HV.out,if_pos ⟨hx,hy⟩]),pD (zc _ _) _⟩
    go_enter func156,ntmps156;go_wp2_with fail
    go_quiet ((go_at_call 215;first|with_reducible exact C1.out _|with_reducible exact C2.out _))
    go_wp2;go_ret;exact ⟨aV (by rw[HV.out,if_neg om]),pD (zc _ _) _⟩
   go_enter func156,ntmps156;go_wp2_with fail
   go_quiet ((go_at_call 215;first|with_reducible exact C1.out _|with_reducible exact C2.out _))
   go_wp2;go_ret;exact ⟨aV (by rw[HV.out,if_neg om]),pD (zc _ _) _⟩
  have HV:Hid (cI s k= -1):=MA h2 h37;obtain ⟨d0,e0⟩: ∃d:Nat,s[k].toNat=d:=⟨_,rfl⟩;have hne: ¬(d0:Int)=37:=om;clear h37;go_enter func156,ntmps156;go_wp2;go_ret;exact ⟨aV (by rw[HV.out]),zc _ _⟩
 have h2i:(s.size:Int)<=(k:Int)+2:=om;have HV:Hid (cI s k= -1):=pX s k om;go_enter func156,ntmps156;go_wp2;go_ret;exact ⟨aV (by rw[HV.out]),zc _ _⟩
theorem GS(s:ByteArray)(k:Nat)(w:World)(hk:k<s.size)(hs:s.size<=1099511627776):Calls prog 89 #[L s,I J (k:Int)] w fun e w'=>e=Y (I J (cI s k))/\Below w.heap.size w w':=by
 have hki:(k:Int)<=1099511627776:=om;have hk0:0<=(k:Int):=om;have hw1:IntKind.i64.wrap ((k:Int)+1)=((k+1:Nat):Int):=by rw[IntKind.wrap_i64];omega
 have hw2:IntKind.i64.wrap ((k:Int)+2)=((k+2:Nat):Int):=by rw[IntKind.wrap_i64];omega
 by_cases h2:k+2<s.size
 .have h2i: ¬(s.size:Int)<=(k:Int)+2:=om
  by_cases h37:s[k].toNat=37
  .obtain ⟨d1,e1⟩: ∃d:Nat,s[k+1].toNat=d:=⟨_,rfl⟩
   obtain ⟨d2,e2⟩: ∃d:Nat,s[k+2].toNat=d:=⟨_,rfl⟩;have i1:=AQ prog 9 underlying9 s ((k:Int)+1) (k+1) d1 om om e1;have i2:=AQ prog 9 underlying9 s ((k:Int)+2) (k+2) d2 om om e2;have b1:d1<=255:=by have:=s[k+1].toNat_lt;omega
   have b2:d2<=255:=by have:=s[k+2].toNat_lt;omega
   have HV:Hid (cI s k=if 0<=bP d1/\0<=bP d2 then bP d1*16+bP d2 else-1):=MB h2 h37 e1 e2;have c1:=fun n:Nat=>Calls.quiet_of_same (w:=w) (n:=n) (v:=I J (bP d1)) ((tQ d1 (w.drewN n) om).mono fun _ _ ⟨a,b⟩=>⟨a,b.symm⟩)
   have c2:=fun n:Nat=>Calls.quiet_of_same (w:=w) (n:=n) (v:=I J (bP d2)) ((tQ d2 (w.drewN n) om).mono fun _ _ ⟨a,b⟩=>⟨a,b.symm⟩)
   have q1:=fun W:World=>tQ d1 W om
   have q2:=fun W:World=>tQ d2 W om
   have l1:=iN d1;have l2:=iN d2;generalize bP d1=x at HV c1 l1 q1;generalize bP d2=y at HV c2 l2 q2;have C1:Hid (∀n,Calls prog 113 #[.int .u8 (d1:Int)] (w.drewN n) fun e w''=>e=Y (I J x)/\ ∃m,w''=w.drewN m):=c1;have C2:Hid (∀n,Calls prog 113 #[.int .u8 (d2:Int)] (w.drewN n) fun e w''=>e=Y (I J y)/\ ∃m,w''=w.drewN m):=c2;have D1:Hid (∀W,CS 113 #[.int .u8 (d1:Int)] W (I J x)):=q1;have D2:Hid (∀W,CS 113 #[.int .u8 (d2:Int)] W (I J y)):=q2;clear c1 c2 q1 q2;obtain ⟨l1a,l1b⟩:=l1;obtain ⟨l2a,l2b⟩:=l2
   by_cases hx:0<=x
   .by_cases hy:0<=y
    .go_enter func89,ntmps89
     go_wp2_with fail;refine (D1.out _).mono ?_;rintro e w' ⟨rfl,rfl⟩;go_wp2_with fail;refine (D2.out _).mono ?_;rintro e w' ⟨rfl,rfl⟩;go_wp2_with fail
     go_quiet ((go_at_call 113;first|with_reducible exact C1.out _|with_reducible exact C2.out _))
     go_wp2;go_ret;exact ⟨aV (by rw[HV.out,if_pos ⟨hx,hy⟩]),pD (zc _ _) _⟩
    go_enter func89,ntmps89;go_wp2_with fail;refine (D1.out _).mono ?_;rintro e w' ⟨rfl,rfl⟩;go_wp2_with fail;refine (D2.out _).mono ?_;rintro e w' ⟨rfl,rfl⟩;go_wp2;go_ret;exact ⟨aV (by rw[HV.out,if_neg om]),zc _ _⟩
   go_enter func89,ntmps89;go_wp2_with fail;refine (D1.out _).mono ?_;rintro e w' ⟨rfl,rfl⟩;go_wp2;go_ret;exact ⟨aV (by rw[HV.out,if_neg om]),zc _ _⟩
  have HV:Hid (cI s k= -1):=MA h2 h37;obtain ⟨d0,e0⟩: ∃d:Nat,s[k].toNat=d:=⟨_,rfl⟩;have hne: ¬(d0:Int)=37:=om;clear h37;go_enter func89,ntmps89;go_wp2;go_ret;exact ⟨aV (by rw[HV.out]),zc _ _⟩
 have h2i:(s.size:Int)<=(k:Int)+2:=om;have HV:Hid (cI s k= -1):=pX s k om;go_enter func89,ntmps89;go_wp2;go_ret;exact ⟨aV (by rw[HV.out]),zc _ _⟩
theorem jH{w1:World}{B:Nat}{e:TypeId}{v:Value}{o:List UInt8}{x:Int}(c:UInt8)(hx:x=(c.toNat:Int))
  (h:w1.ownsRow B e 1 v (o.length+1) (aD o++ #[Value.int .u8 x].toList)):w1.ownsRow B e 1 v (o++[c]).length (aD (o++[c])):=by
 subst hx;rw[lR,zg];exact h
theorem jI(x:Int): ∀u∈ #[Value.int .u8 x].toList,u.oneCell'=true:=by
 intro u hu;simp at hu;subst hu;rfl
theorem MD{c:Int}(h0:0<=c)(h1:c<=255):c=((za c.toNat).toNat:Int):=by
 have:(za c.toNat).toNat=c.toNat%256:=by simp
 omega
theorem Cw(s:ByteArray)(k:Nat)(o:List UInt8)(h:0<=cI s k)(he:o++unL (s.data.toList.drop k)=unL s.data.toList):
  (o++[za (cI s k).toNat])++unL (s.data.toList.drop (k+3))=unL s.data.toList:=by
 rw[<-he];unfold unL;rw[wX _ _ s k h];simp
theorem H7(s:ByteArray)(k:Nat)(hk:k<s.size)(o:List UInt8)(h:cI s k<0)(he:o++unL (s.data.toList.drop k)=unL s.data.toList):
  (o++[s[k]])++unL (s.data.toList.drop (k+1))=unL s.data.toList:=by
 rw[<-he];unfold unL;rw[sI _ _ s k hk h];simp
theorem Cx(s:ByteArray)(k:Nat)(hk:s.size<=k)(o:List UInt8)(he:o++unL (s.data.toList.drop k)=unL s.data.toList):o=unL s.data.toList:=by
 rw[<-he];unfold unL;rw[NP _ _ s k hk];simp
theorem KG(s:ByteArray)(w:World)(hs:s.size<=1099511627776):Calls prog 115 #[L s] w fun e w'=>e=Y (L ⟨(unL s.data.toList).toArray⟩)/\Below w.heap.size w w':=by
 go_enter func115,ntmps115;go_wp2
 go_loopw[3,4] (fun v i wr=> ∃(k:Nat) (o:List UInt8),k<=s.size/\i=I J k/\o.length<=k/\wr.ownsRow w.heap.size 5 1 v o.length (aD o)/\o++unL (s.data.toList.drop k)=unL s.data.toList/\Below w.heap.size w wr)
  (fun _ i _=>s.size-(intOf i).toNat)
 case atStart=>exact ⟨0,[],ze _,rfl,ze _,zn w #[] 0 (zd _) de rfl,rfl,(zc _ _).alloc (zd _) _⟩
 obtain ⟨k,o,hk,rfl,hol,hown,he,hbel⟩:=hrel;have HE:Hid (o++unL (s.data.toList.drop k)=unL s.data.toList):=he;clear he;have hsz:=hbel.size
 by_cases hlt:k<s.size
 .have hct:=fun W=>GS s k W hlt hs
  have hcl:=pY s k
  by_cases hc:0<=cI s k
  .have HN:Hid ((o++[za (cI s k).toNat])++unL (s.data.toList.drop (k+3))=unL s.data.toList):=Cw s k o hc HE.out
   have hk3:=nS hc;generalize cI s k=c at hct hcl hc HN;obtain ⟨hc0,hc1⟩:=hcl;have HC:Hid (∀W,CB 89 #[L s,I J (k:Int)] W (I J c)):=hct;clear hct;go_wp2_with fail;refine (HC.out _).mono ?_;rintro e wb ⟨rfl,bb⟩;have ob:=aN hown bb;have hsb:=bb.size;go_wp2_with (at_builtin;refine aC _ rfl _ _ 22 rfl w.heap.size 5 (.int .u8 0) 1 underlying22 info5 rfl _ _ _ rfl ob #[.int .u8 c] 1 rfl rfl (jI _) om (by unfold maxLen;omega) om ?_);intro v' w1 hown' hb1;have R:=jH _ (MD hc hc1) hown';have B1:Below w.heap.size w w1:=(hbel.trans (bb.mono hsz)).trans hb1;clear hown' hb1 hown hbel ob bb;go_wp2;go_roundw
   case rel=>exact ⟨k+3,_,om,gn,by simp;omega,R,HN.out,B1⟩
   case measure=>exact j1
  have HN:Hid ((o++[s[k]])++unL (s.data.toList.drop (k+1))=unL s.data.toList):=H7 s k hlt o om HE.out;generalize cI s k=c at hct hcl hc;obtain ⟨hc0,hc1⟩:=hcl;have HC:Hid (∀W,CB 89 #[L s,I J (k:Int)] W (I J c)):=hct;clear hct;go_wp2_with fail;refine (HC.out _).mono ?_;rintro e wb ⟨rfl,bb⟩;have ob:=aN hown bb;have hsb:=bb.size;go_wp2_with (at_builtin;refine aC _ rfl _ _ 22 rfl w.heap.size 5 (.int .u8 0) 1 underlying22 info5 rfl _ _ _ rfl ob #[.int .u8 (s[k].toNat:Int)] 1 rfl rfl (jI _) om (by unfold maxLen;omega) om ?_);intro v' w1 hown' hb1;have R:=jH s[k] rfl hown';have B1:Below w.heap.size w w1:=(hbel.trans (bb.mono hsz)).trans hb1;clear hown' hb1 hown hbel ob bb;go_wp2;go_roundw
  case rel=>exact ⟨k+1,_,om,gn,by simp;omega,R,HN.out,B1⟩
  case measure=>exact j1
 have HO:=bG (P:=prog) wr 22 9 5 underlying22 underlying5 underlying9 hown;go_wp2;go_ret;exact ⟨oT (Cx s k om o HE.out),hbel⟩
theorem vA(s:ByteArray)(w:World)(hs:s.size<=1099511627776):Calls prog 186 #[L s] w fun e w'=>e=Y (L ⟨(unL s.data.toList).toArray⟩)/\Below w.heap.size w w':=by
 obtain ⟨i0,hi,hz0,hz1,hz2⟩:=info_parts info5;go_enter func186,ntmps186;go_wp2_with (at_make;refine wpList_make_own _ rfl _ _ 22 rfl w.heap.size 5 i0 (.int .u8 0) 1 underlying22 hi hz0 hz1 _ _ _ s.size rfl rfl om (by rw[hz2];omega) (by unfold maxLen;omega) (zd _) ?_);intro wm hmo hgm;have Bm:Below w.heap.size w wm:=(zc _ _).grown hgm (zd _) (fun k hk=>by cases hk);clear hgm;go_wp2
 go_loopw[3,4] (fun v i wr=> ∃(k:Nat) (o:List UInt8),k<=s.size/\i=I J k/\o.length<=k/\wr.ownsRow w.heap.size 5 1 v o.length (aD o)/\o++unL (s.data.toList.drop k)=unL s.data.toList/\Below w.heap.size w wr)
  (fun _ i _=>s.size-(intOf i).toNat)
 case atStart=>exact ⟨0,[],ze _,rfl,ze _,hmo,rfl,Bm⟩
 clear hmo Bm hi hz0 hz1 hz2;obtain ⟨k,o,hk,rfl,hol,hown,he,hbel⟩:=hrel;have HE:Hid (o++unL (s.data.toList.drop k)=unL s.data.toList):=he;clear he;have hsz:=hbel.size
 by_cases hlt:k<s.size
 .have hct:=fun W=>MC s k W hlt hs
  have hcl:=pY s k
  by_cases hc:0<=cI s k
  .have HN:Hid ((o++[za (cI s k).toNat])++unL (s.data.toList.drop (k+3))=unL s.data.toList):=Cw s k o hc HE.out
   have hk3:=nS hc;generalize cI s k=c at hct hcl hc HN;obtain ⟨hc0,hc1⟩:=hcl;have HC:Hid (∀W,CB 156 #[L s,I J (k:Int)] W (I J c)):=hct;clear hct;go_wp2_with fail;refine (HC.out _).mono ?_;rintro e wb ⟨rfl,bb⟩;have ob:=aN hown bb;have hsb:=bb.size;go_wp2_with (at_builtin;refine aC _ rfl _ _ 22 rfl w.heap.size 5 (.int .u8 0) 1 underlying22 info5 rfl _ _ _ rfl ob #[.int .u8 c] 1 rfl rfl (jI _) om (by unfold maxLen;omega) om ?_);intro v' w1 hown' hb1;have R:=jH _ (MD hc hc1) hown';have B1:Below w.heap.size w w1:=(hbel.trans (bb.mono hsz)).trans hb1;clear hown' hb1 hown hbel ob bb;go_wp2;go_roundw
   case rel=>exact ⟨k+3,_,om,gn,by simp;omega,R,HN.out,B1⟩
   case measure=>exact j1
  have HN:Hid ((o++[s[k]])++unL (s.data.toList.drop (k+1))=unL s.data.toList):=H7 s k hlt o om HE.out;generalize cI s k=c at hct hcl hc;obtain ⟨hc0,hc1⟩:=hcl;have HC:Hid (∀W,CB 156 #[L s,I J (k:Int)] W (I J c)):=hct;clear hct;go_wp2_with fail;refine (HC.out _).mono ?_;rintro e wb ⟨rfl,bb⟩;have ob:=aN hown bb;have hsb:=bb.size;go_wp2_with (at_builtin;refine aC _ rfl _ _ 22 rfl w.heap.size 5 (.int .u8 0) 1 underlying22 info5 rfl _ _ _ rfl ob #[.int .u8 (s[k].toNat:Int)] 1 rfl rfl (jI _) om (by unfold maxLen;omega) om ?_);intro v' w1 hown' hb1;have R:=jH s[k] rfl hown';have B1:Below w.heap.size w w1:=(hbel.trans (bb.mono hsz)).trans hb1;clear hown' hb1 hown hbel ob bb;go_wp2;go_roundw
  case rel=>exact ⟨k+1,_,om,gn,by simp;omega,R,HN.out,B1⟩
  case measure=>exact j1
 have HO:=bG (P:=prog) wr 22 9 5 underlying22 underlying5 underlying9 hown;go_wp2;go_ret;exact ⟨oT (Cx s k om o HE.out),hbel⟩
theorem qO{P:Program}{w:World}{ops:Array Oper}{o:Oper}{a:Act}{K:Act->World->Prop}{Q:Exit->Act->World->Prop}{E:Prop}(hg:o.guard=none)(s x:Operand)(t:TypeId)
  (hop:o.op=.call {callee:=.builtin .append,args:= #[s,x],argTypes:= #[t,t]})
  (B:Nat) (e:TypeId) (z:Value) (bytes:Nat) (ht:P.underlying t=some (.slice e)) (hinfo:(P.info? e).map (fun i=>(i.zero,i.size,i.bytes))=some (some z,1,bytes)) (hz:z.cells.size=1)
  (v:Value) (n:Nat) (xs:List Value) (hs:a.eval s=v) (hown:w.ownsRow B e 1 v n xs)
  (ad:Addr) (m c:Nat) (news:List Value) (hx:a.eval x=.slice (some ad) m c) (hl:news.length=m*1) (hnews: ∀j u,news[j]? =some u->w.cell? (ad.add j)=some u) (h1: ∀u∈news,u.oneCell'=true)
  (h63:n+m<=maxLen) (hbytes:(n+m)*bytes<=140737488355328) (hbase:B<=w.heap.size)
  (hK: ∀v' w',w'.ownsRow B e 1 v' (n+m) (xs++news)->w.grownBy w' v.ownBlock->K (a.put o.dst v') w'):
  if Region.wanted o (yielded ops a.tmps)=true then Oper.wp P o a w K Q else E:=by
 obtain ⟨i0,hi,hz0,hz1,hz2⟩:=info_parts hinfo;have hw:Region.wanted o (yielded ops a.tmps)=true:=by simp[Region.wanted,hg]
 rw[if_pos hw];exact wp_append_own w s x t hop B e i0 z 1 bytes ht hi hz0 hz1 hz2 hz de v n xs hs hown ad m c news hx hl hnews h1 h63 hbytes hbase fun v' w' a b _=>hK v' w' a b
def Cy:ByteArray:=⟨#[48,49,50,51,52,53,54,55,56,57,65,66,67,68,69,70]⟩
theorem Mi: ∀n,(h:n<16)->(Cy[n]'h).toNat=(pM n).toNat:=by decide+kernel
theorem EG(P:Program)(t:TypeId)(h:P.underlying t=some .string)(k:IntKind)(n:Nat)(hn:n<16)(i:Int)(hi:i=(n:Int))(W:World):
  (Instr.index t (L ⟨#[48,49,50,51,52,53,54,55,56,57,65,66,67,68,69,70]⟩) (.int k i)).run P W=.ok (.int .u8 ((pM n).toNat:Int)) W:=by
 subst hi;have hs:(⟨#[48,49,50,51,52,53,54,55,56,57,65,66,67,68,69,70]⟩:ByteArray).size=16:=rfl;rw[run_index_string W t _ k _ h,dif_pos om];simp only[Int.toNat_natCast];exact congrArg (fun d:Nat=>Result.ok (Value.int .u8 (d:Int)) W) (Mi n hn)
theorem ME: ∀n:Nat,n<256->bits .and .u8 (n:Int) 15=(n:Int)%16:=by decide+kernel
theorem I0{w1:World}{B:Nat}{e:TypeId}{v:Value}{o:List UInt8}(c:UInt8){x y:Int}(hx:x=((pM (c.toNat/16)).toNat:Int))(hy:y=((pM (c.toNat%16)).toNat:Int))
  (h:w1.ownsRow B e 1 v (o.length+3) (aD o++[Value.int .u8 37,.int .u8 x,.int .u8 y])):w1.ownsRow B e 1 v (o++pW c).length (aD (o++pW c)):=by
 subst hx hy;rw[fW,zg];exact h
theorem vB(c:UInt8)(d:Nat)(hd:c.toNat=d)(v:Value)(o:List UInt8)(B:Nat)(w:World)(hown:w.ownsRow B 5 1 v o.length (aD o))(hB:B<=w.heap.size)(hl:o.length<=1099511627776):Calls prog 159 #[v,.int .u8 (d:Int)] w fun e w'=> ∃v',e=Y v'/\w'.ownsRow B 5 1 v' (o++pW c).length (aD (o++pW c))/\Below B w w':=by
 have hd1:(d:Int)<=255:=by have:=c.toNat_lt;omega
 have hd0:0<=(d:Int):=om;have hb:=ME d om;have i1:=EG prog 9 underlying9 .u8 (d/16) om ((d:Int)/16) om;have i2:=EG prog 9 underlying9 .u8 (d%16) om ((d:Int)%16) om;obtain ⟨p,hp⟩: ∃p:Int,((pM (d/16)).toNat:Int)=p:=⟨_,rfl⟩;obtain ⟨q,hq⟩: ∃q:Int,((pM (d%16)).toNat:Int)=q:=⟨_,rfl⟩;rw[hp]at i1;rw[hq]at i2;have HP:Hid (p=((pM (c.toNat/16)).toNat:Int)):=by show _=_;rw[hd,hp]
 have HQ:Hid (q=((pM (c.toNat%16)).toNat:Int)):=by show _=_;rw[hd,hq]
 clear hp hq;have HA:Hid ((w.alloc (Z #[.int .u8 37,.int .u8 p,.int .u8 q] 5)).drew.ownsRow B 5 1 v o.length (aD o)):=hown.alloc _;have HN:Hid (∀j u,[Value.int .u8 37,.int .u8 p,.int .u8 q][j]? =some u->(w.alloc (Z #[.int .u8 37,.int .u8 p,.int .u8 q] 5)).drew.cell? ((⟨w.heap.size,0,none⟩:Addr).add j)=some u):=by
  intro j u hj;show (w.alloc (Z #[.int .u8 37,.int .u8 p,.int .u8 q] 5)).cell? _=_;rw[Addr.add_lit,Nat.zero_add,zk _ _ _ _ rfl];simpa using hj
 have H1:Hid (∀u∈[Value.int .u8 37,.int .u8 p,.int .u8 q],u.oneCell'=true):=by
  intro u hu;simp at hu
  rcases hu with rfl|rfl|rfl<;>rfl
 have HB:Hid (∀w1:World,(w.alloc (Z #[.int .u8 37,.int .u8 p,.int .u8 q] 5)).drew.grownBy w1 v.ownBlock->Below B w w1):=fun w1 hg=>
  (((zc B w).alloc hB _).drew).grown hg (by simp;omega) (fun k hk=>(hown.lt k hk).1)
 have HL:Hid (B<=(w.alloc (Z #[.int .u8 37,.int .u8 p,.int .u8 q] 5)).drew.heap.size):=by show B<=_;simp;omega
 go_enter func159,ntmps159;go_wp2_with fail
 go_region_law ((refine qO rfl (.tmp 5) (.tmp 12) 22 rfl B 5 (.int .u8 0) 1 underlying22 info5 rfl v o.length (aD o) rfl HA.out ⟨w.heap.size,0,none⟩ 3 3 [.int .u8 37,.int .u8 p,.int .u8 q] rfl rfl HN.out H1.out (by unfold maxLen;omega) om HL.out ?_;intro v' w1 hown' hgrow))
 all_goals
  go_wp2;go_ret;exact ⟨_,rfl,I0 c HP.out HQ.out hown',HB.out _ hgrow⟩
theorem I1(c:UInt8)(d:Nat)(hd:c.toNat=d)(v:Value)(o:List UInt8)(B:Nat)(w:World)(hown:w.ownsRow B 5 1 v o.length (aD o))(hB:B<=w.heap.size)(hl:o.length<=1099511627776):Calls prog 92 #[v,.int .u8 (d:Int)] w fun e w'=> ∃v',e=Y v'/\w'.ownsRow B 5 1 v' (o++pW c).length (aD (o++pW c))/\Below B w w':=by
 have hd1:(d:Int)<=255:=by have:=c.toNat_lt;omega
 have hd0:0<=(d:Int):=om;have hb:=ME d om;have i1:=EG prog 9 underlying9 .u8 (d/16) om ((d:Int)/16) om;have i2:=EG prog 9 underlying9 .u8 (d%16) om ((d:Int)%16) om;obtain ⟨p,hp⟩: ∃p:Int,((pM (d/16)).toNat:Int)=p:=⟨_,rfl⟩;obtain ⟨q,hq⟩: ∃q:Int,((pM (d%16)).toNat:Int)=q:=⟨_,rfl⟩;rw[hp]at i1;rw[hq]at i2;have HP:Hid (p=((pM (c.toNat/16)).toNat:Int)):=by show _=_;rw[hd,hp]
 have HQ:Hid (q=((pM (c.toNat%16)).toNat:Int)):=by show _=_;rw[hd,hq]
 clear hp hq;have HA:Hid ((w.alloc (Z #[.int .u8 37,.int .u8 p,.int .u8 q] 5)).drew.ownsRow B 5 1 v o.length (aD o)):=hown.alloc _;have HN:Hid (∀j u,[Value.int .u8 37,.int .u8 p,.int .u8 q][j]? =some u->(w.alloc (Z #[.int .u8 37,.int .u8 p,.int .u8 q] 5)).drew.cell? ((⟨w.heap.size,0,none⟩:Addr).add j)=some u):=by
  intro j u hj;show (w.alloc (Z #[.int .u8 37,.int .u8 p,.int .u8 q] 5)).cell? _=_;rw[Addr.add_lit,Nat.zero_add,zk _ _ _ _ rfl];simpa using hj
 have H1:Hid (∀u∈[Value.int .u8 37,.int .u8 p,.int .u8 q],u.oneCell'=true):=by
  intro u hu;simp at hu
  rcases hu with rfl|rfl|rfl<;>rfl
 have HB:Hid (∀w1:World,(w.alloc (Z #[.int .u8 37,.int .u8 p,.int .u8 q] 5)).drew.grownBy w1 v.ownBlock->Below B w w1):=fun w1 hg=>
  (((zc B w).alloc hB _).drew).grown hg (by simp;omega) (fun k hk=>(hown.lt k hk).1)
 have HL:Hid (B<=(w.alloc (Z #[.int .u8 37,.int .u8 p,.int .u8 q] 5)).drew.heap.size):=by show B<=_;simp;omega
 go_enter func92,ntmps92;go_wp2_with fail
 go_region_law ((refine qO rfl (.tmp 5) (.tmp 12) 22 rfl B 5 (.int .u8 0) 1 underlying22 info5 rfl v o.length (aD o) rfl HA.out ⟨w.heap.size,0,none⟩ 3 3 [.int .u8 37,.int .u8 p,.int .u8 q] rfl rfl HN.out H1.out (by unfold maxLen;omega) om HL.out ?_;intro v' w1 hown' hgrow))
 all_goals
  go_wp2;go_ret;exact ⟨_,rfl,I0 c HP.out HQ.out hown',HB.out _ hgrow⟩
theorem UP{set:Int}{c:UInt8}(h:dX set c.toNat=true):gA set c=[c]:=by unfold gA;rw[h];rfl
theorem I2{set:Int}{c:UInt8}(h:dX set c.toNat=false):gA set c=pW c:=by unfold gA;rw[h];rfl
theorem GT(c:UInt8)(d:Nat)(hd:c.toNat=d)(set:Int)(v:Value)(o:List UInt8)(B:Nat)(w:World)(hM:iX w)(hown:w.ownsRow B 5 1 v o.length (aD o))(hB:B<=w.heap.size)(hl:o.length<=1099511627776):Calls prog 157 #[v,.int .u8 (d:Int),I J set] w fun e w'=> ∃v',e=Y v'/\w'.ownsRow B 5 1 v' (o++gA set c).length (aD (o++gA set c))/\Below B w w':=by
 have hd1:(d:Int)<=255:=by have:=c.toNat_lt;omega
 have hd0:0<=(d:Int):=om;have ck:=O3 set (d:Int) w hM;rw[tW]at ck
 cases hk:dX set d with
 |true=>
  have HK:Hid (gA set c=[c]):=UP (by rw[hd];exact hk);have HD:Hid ((d:Int)=(c.toNat:Int)):=by show _=_;rw[hd]
  rw[hk]at ck;have CK:Hid (CS 216 #[I J set,I J (d:Int)] w (H true)):=ck;clear ck hk hd hM;go_enter func157,ntmps157;go_wp2_with fail;refine CK.out.mono ?_;rintro e w' ⟨rfl,rfl⟩;go_wp2_with (at_builtin;refine aC _ rfl _ _ 22 rfl B 5 (.int .u8 0) 1 underlying22 info5 rfl _ _ _ rfl hown #[.int .u8 (d:Int)] 1 rfl rfl (jI _) om (by unfold maxLen;omega) om ?_);intro v' w1 hown' hb1;have R:=jH c HD.out hown';clear hown';go_wp2;go_ret;exact ⟨_,rfl,by rw[HK.out];exact R,hb1⟩
 |false=>
  have HK:Hid (gA set c=pW c):=I2 (by rw[hd];exact hk);have HD:Hid (c.toNat=d):=hd;rw[hk]at ck;have CK:Hid (CS 216 #[I J set,I J (d:Int)] w (H false)):=ck;clear ck hk hd hM;go_enter func157,ntmps157;go_wp2_with fail;refine CK.out.mono ?_;rintro e w' ⟨rfl,rfl⟩;go_wp2_with fail;refine (vB c d HD.out _ o B _ hown hB hl).mono ?_;rintro e w1 ⟨v',rfl,hown',hb1⟩;go_wp2;go_ret;exact ⟨_,rfl,by rw[HK.out];exact hown',hb1⟩
theorem Cz(set:Int)(s:ByteArray)(k n:Nat)(h:cI s k=(n:Int))(o:List UInt8)(he:o++plL set (s.data.toList.drop k)=plL set s.data.toList):
  (o++jC (za n))++plL set (s.data.toList.drop (k+3))=plL set s.data.toList:=by
 rw[<-he];unfold plL;rw[wX _ _ s k om,h,zo];rfl
theorem I3(set:Int)(s:ByteArray)(k:Nat)(hk:k<s.size)(o:List UInt8)(h:cI s k<0)(he:o++plL set (s.data.toList.drop k)=plL set s.data.toList):
  (o++gA set s[k])++plL set (s.data.toList.drop (k+1))=plL set s.data.toList:=by
 rw[<-he];unfold plL;rw[sI _ _ s k hk h,zo]
theorem Da(set:Int)(s:ByteArray)(k:Nat)(hk:s.size<=k)(o:List UInt8)(he:o++plL set (s.data.toList.drop k)=plL set s.data.toList):o=plL set s.data.toList:=by
 rw[<-he];unfold plL;rw[NP _ _ s k hk];simp
theorem MF(n:Nat):uZ (n:Int)=fF n:=by simp[uZ]
theorem pE(s:ByteArray)(set:Int)(w:World)(hM:iX w)(hs:s.size<=4294967296):Calls prog 104 #[L s,I J set] w fun e w'=>e=Y (L ⟨(plL set s.data.toList).toArray⟩)/\Below w.heap.size w w':=by
 have HM:Hid (iX w):=hM;clear hM;obtain ⟨i0,hi,hz0,hz1,hz2⟩:=info_parts info5;go_enter func104,ntmps104;go_wp2_with (at_make;refine wpList_make_own _ rfl _ _ 22 rfl w.heap.size 5 i0 (.int .u8 0) 1 underlying22 hi hz0 hz1 _ _ _ s.size rfl rfl om (by rw[hz2];omega) (by unfold maxLen;omega) (zd _) ?_);intro wm hmo hgm;have Bm:Below w.heap.size w wm:=(zc _ _).grown hgm (zd _) (fun k hk=>by cases hk);clear hgm;go_wp2
 go_loopw[5,6] (fun v i wr=> ∃(k:Nat) (o:List UInt8),k<=s.size/\i=I J k/\o.length<=3*k/\wr.ownsRow w.heap.size 5 1 v o.length (aD o)/\o++plL set (s.data.toList.drop k)=plL set s.data.toList/\Below w.heap.size w wr)
  (fun _ i _=>s.size-(intOf i).toNat)
 case atStart=>exact ⟨0,[],ze _,rfl,ze _,hmo,rfl,Bm⟩
 clear hmo Bm hi hz0 hz1 hz2;obtain ⟨k,o,hk,rfl,hol,hown,he,hbel⟩:=hrel;have HE:Hid (o++plL set (s.data.toList.drop k)=plL set s.data.toList):=he;clear he;have hsz:=hbel.size
 by_cases hlt:k<s.size
 .have hct:=fun W=>MC s k W hlt om
  have hcl:=pY s k
  by_cases hc:0<=cI s k
  .obtain ⟨n,hn⟩:=zh hc
   have hk3:=nS hc;have HN:Hid ((o++jC (za n))++plL set (s.data.toList.drop (k+3))=plL set s.data.toList):=Cz set s k n hn o HE.out;have HT:Hid ((za n).toNat=n):=by show _=_;simp;omega
   have HF:Hid (jC (za n)=if fF n then [za n]else pW (za n)):=by show _=_;unfold jC;rw[HT.out]
   rw[hn]at hct hcl;have hn1:(n:Int)<=255:=hcl.2;have hn0:0<=(n:Int):=om;have HC:Hid (∀W,CB 156 #[L s,I J (k:Int)] W (I J (n:Int))):=hct;clear hct hcl hc hn
   cases hf:fF n with
   |true=>
    rw[hf,if_pos rfl]at HF;rw[HF.out]at HN;have ckk:=fun (W:World) (hb:Below w.heap.size w W)=>sQ n W (HM.out.later hb) hn1
    rw[hf]at ckk;have CK:Hid (∀W,Below w.heap.size w W->CS 158 #[.int .u8 (n:Int)] W (H true)):=ckk;have HX:Hid ((n:Int)=((za n).toNat:Int)):=by show _=_;rw[HT.out]
    clear ckk hf HF;generalize za n=u at HN HT HX;go_wp2_with fail;refine (HC.out _).mono ?_;rintro e wb ⟨rfl,bb⟩;have ob:=aN hown bb;have hsb:=bb.size;have Bb:Below w.heap.size w wb:=hbel.trans (bb.mono hsz);clear bb hbel hown;go_wp2_with fail;refine (CK.out _ Bb).mono ?_;rintro e w' ⟨rfl,rfl⟩;go_wp2_with (at_builtin;refine aC _ rfl _ _ 22 rfl w.heap.size 5 (.int .u8 0) 1 underlying22 info5 rfl _ _ _ rfl ob #[.int .u8 (n:Int)] 1 rfl rfl (jI _) om (by unfold maxLen;omega) om ?_);intro v' w1 hown' hb1;have R:=jH u HX.out hown';have B1:Below w.heap.size w w1:=Bb.trans hb1;clear hown' hb1 ob Bb;go_wp2;go_roundw
    case rel=>exact ⟨k+3,_,om,gn,by simp;omega,R,HN.out,B1⟩
    case measure=>exact j1
   |false=>
    rw[hf,if_neg de]at HF;rw[HF.out]at HN;have ckk:=fun (W:World) (hb:Below w.heap.size w W)=>sQ n W (HM.out.later hb) hn1
    rw[hf]at ckk;have CK:Hid (∀W,Below w.heap.size w W->CS 158 #[.int .u8 (n:Int)] W (H false)):=ckk;clear ckk hf HF;generalize za n=u at HN HT;go_wp2_with fail;refine (HC.out _).mono ?_;rintro e wb ⟨rfl,bb⟩;have ob:=aN hown bb;have hsb:=bb.size;have Bb:Below w.heap.size w wb:=hbel.trans (bb.mono hsz);clear bb hbel hown;go_wp2_with fail;refine (CK.out _ Bb).mono ?_;rintro e w' ⟨rfl,rfl⟩;go_wp2_with fail;refine (vB u n HT.out _ o w.heap.size _ ob om om).mono ?_;rintro e w1 ⟨v',rfl,hown',hb1⟩;have B1:Below w.heap.size w w1:=Bb.trans hb1;clear hb1 ob Bb;go_wp2;go_roundw
    case rel=>exact ⟨k+3,_,om,gn,by simp[pW];omega,hown',HN.out,B1⟩
    case measure=>exact j1
  have HN:Hid ((o++gA set s[k])++plL set (s.data.toList.drop (k+1))=plL set s.data.toList):=I3 set s k hlt o om HE.out;obtain ⟨d,hd⟩: ∃d:Nat,s[k].toNat=d:=⟨_,rfl⟩;have hd1:(d:Int)<=255:=by have:=s[k].toNat_lt;omega
  have hd0:0<=(d:Int):=om;have HD:Hid (s[k].toNat=d):=hd;have hkl:=EQ set s[k];generalize cI s k=c at hct hcl hc;obtain ⟨hc0,hc1⟩:=hcl;have HC:Hid (∀W,CB 156 #[L s,I J (k:Int)] W (I J c)):=hct;clear hct;go_wp2_with fail;refine (HC.out _).mono ?_;rintro e wb ⟨rfl,bb⟩;have ob:=aN hown bb;have hsb:=bb.size;have Bb:Below w.heap.size w wb:=hbel.trans (bb.mono hsz);clear bb hbel hown;go_wp2_with fail;refine (GT s[k] d HD.out set _ o w.heap.size _ (HM.out.later Bb) ob om om).mono ?_;rintro e w1 ⟨v',rfl,hown',hb1⟩;have B1:Below w.heap.size w w1:=Bb.trans hb1;clear hb1 ob Bb;go_wp2;go_roundw
  case rel=>exact ⟨k+1,_,om,gn,by rw[zg];omega,hown',HN.out,B1⟩
  case measure=>exact j1
 have HO:=bG (P:=prog) wr 22 9 5 underlying22 underlying5 underlying9 hown;go_wp2;go_ret;exact ⟨oT (Da set s k om o HE.out),hbel⟩
theorem mG(s:ByteArray)(set:Int)(w:World)(hs:s.size<=4294967296):Calls prog 41 #[L s,I J set] w fun e w'=>e=Y (L ⟨(plL set s.data.toList).toArray⟩)/\Below w.heap.size w w':=by
 go_enter func41,ntmps41;go_wp2
 go_loopw[5,6] (fun v i wr=> ∃(k:Nat) (o:List UInt8),k<=s.size/\i=I J k/\o.length<=3*k/\wr.ownsRow w.heap.size 5 1 v o.length (aD o)/\o++plL set (s.data.toList.drop k)=plL set s.data.toList/\Below w.heap.size w wr)
  (fun _ i _=>s.size-(intOf i).toNat)
 case atStart=>exact ⟨0,[],ze _,rfl,ze _,zn w #[] 0 (zd _) de rfl,rfl,(zc _ _).alloc (zd _) _⟩
 obtain ⟨k,o,hk,rfl,hol,hown,he,hbel⟩:=hrel;have HE:Hid (o++plL set (s.data.toList.drop k)=plL set s.data.toList):=he;clear he;have hsz:=hbel.size
 by_cases hlt:k<s.size
 .have hct:=fun W=>GS s k W hlt om
  have hcl:=pY s k
  by_cases hc:0<=cI s k
  .obtain ⟨n,hn⟩:=zh hc
   have hk3:=nS hc;have HN:Hid ((o++jC (za n))++plL set (s.data.toList.drop (k+3))=plL set s.data.toList):=Cz set s k n hn o HE.out;have HT:Hid ((za n).toNat=n):=by show _=_;simp;omega
   have HF:Hid (jC (za n)=if fF n then [za n]else pW (za n)):=by show _=_;unfold jC;rw[HT.out]
   rw[hn]at hct hcl;have hn1:(n:Int)<=255:=hcl.2;have hn0:0<=(n:Int):=om;have HC:Hid (∀W,CB 89 #[L s,I J (k:Int)] W (I J (n:Int))):=hct;clear hct hcl hc hn
   cases hf:fF n with
   |true=>
    rw[hf,if_pos rfl]at HF;rw[HF.out]at HN;have ckk:=fun (W:World) (_:Below w.heap.size w W)=>GR (n:Int) W
    simp only[MF,hf]at ckk;have CK:Hid (∀W,Below w.heap.size w W->CS 91 #[I J (n:Int)] W (H true)):=ckk;have HX:Hid ((n:Int)=((za n).toNat:Int)):=by show _=_;rw[HT.out]
    clear ckk hf HF;generalize za n=u at HN HT HX;go_wp2_with fail;refine (HC.out _).mono ?_;rintro e wb ⟨rfl,bb⟩;have ob:=aN hown bb;have hsb:=bb.size;have Bb:Below w.heap.size w wb:=hbel.trans (bb.mono hsz);clear bb hbel hown;go_wp2_with fail;refine (CK.out _ Bb).mono ?_;rintro e w' ⟨rfl,rfl⟩;go_wp2_with (at_builtin;refine aC _ rfl _ _ 22 rfl w.heap.size 5 (.int .u8 0) 1 underlying22 info5 rfl _ _ _ rfl ob #[.int .u8 (n:Int)] 1 rfl rfl (jI _) om (by unfold maxLen;omega) om ?_);intro v' w1 hown' hb1;have R:=jH u HX.out hown';have B1:Below w.heap.size w w1:=Bb.trans hb1;clear hown' hb1 ob Bb;go_wp2;go_roundw
    case rel=>exact ⟨k+3,_,om,gn,by simp;omega,R,HN.out,B1⟩
    case measure=>exact j1
   |false=>
    rw[hf,if_neg de]at HF;rw[HF.out]at HN;have ckk:=fun (W:World) (_:Below w.heap.size w W)=>GR (n:Int) W
    simp only[MF,hf]at ckk;have CK:Hid (∀W,Below w.heap.size w W->CS 91 #[I J (n:Int)] W (H false)):=ckk;clear ckk hf HF;generalize za n=u at HN HT;go_wp2_with fail;refine (HC.out _).mono ?_;rintro e wb ⟨rfl,bb⟩;have ob:=aN hown bb;have hsb:=bb.size;have Bb:Below w.heap.size w wb:=hbel.trans (bb.mono hsz);clear bb hbel hown;go_wp2_with fail;refine (CK.out _ Bb).mono ?_;rintro e w' ⟨rfl,rfl⟩;go_wp2_with fail;refine (I1 u n HT.out _ o w.heap.size _ ob om om).mono ?_;rintro e w1 ⟨v',rfl,hown',hb1⟩;have B1:Below w.heap.size w w1:=Bb.trans hb1;clear hb1 ob Bb;go_wp2;go_roundw
    case rel=>exact ⟨k+3,_,om,gn,by simp[pW];omega,hown',HN.out,B1⟩
    case measure=>exact j1
  have HN:Hid ((o++gA set s[k])++plL set (s.data.toList.drop (k+1))=plL set s.data.toList):=I3 set s k hlt o om HE.out;obtain ⟨d,hd⟩: ∃d:Nat,s[k].toNat=d:=⟨_,rfl⟩;have hd1:(d:Int)<=255:=by have:=s[k].toNat_lt;omega
  have hd0:0<=(d:Int):=om;have HD:Hid (s[k].toNat=d):=hd;have hkl:=EQ set s[k];generalize cI s k=c at hct hcl hc;obtain ⟨hc0,hc1⟩:=hcl;have HC:Hid (∀W,CB 89 #[L s,I J (k:Int)] W (I J c)):=hct;clear hct;have ckk:=fun W=>LZ set (d:Int) W
  simp only[tW]at ckk
  cases hkp:dX set d with
  |true=>
   rw[UP (show dX set s[k].toNat=true by rw[hd];exact hkp)]at HN hkl;rw[hkp]at ckk;have CK:Hid (∀W,CS 90 #[I J set,I J (d:Int)] W (H true)):=ckk;have HX:Hid ((d:Int)=(s[k].toNat:Int)):=by show _=_;rw[hd]
   clear ckk hkp;go_wp2_with fail;refine (HC.out _).mono ?_;rintro e wb ⟨rfl,bb⟩;have ob:=aN hown bb;have hsb:=bb.size;have Bb:Below w.heap.size w wb:=hbel.trans (bb.mono hsz);clear bb hbel hown;go_wp2_with fail;refine (CK.out _).mono ?_;rintro e w' ⟨rfl,rfl⟩;go_wp2_with (at_builtin;refine aC _ rfl _ _ 22 rfl w.heap.size 5 (.int .u8 0) 1 underlying22 info5 rfl _ _ _ rfl ob #[.int .u8 (d:Int)] 1 rfl rfl (jI _) om (by unfold maxLen;omega) om ?_);intro v' w1 hown' hb1;have R:=jH s[k] HX.out hown';have B1:Below w.heap.size w w1:=Bb.trans hb1;clear hown' hb1 ob Bb;go_wp2;go_roundw
   case rel=>exact ⟨k+1,_,om,gn,by simp;omega,R,HN.out,B1⟩
   case measure=>exact j1
  |false=>
   rw[I2 (show dX set s[k].toNat=false by rw[hd];exact hkp)]at HN hkl;rw[hkp]at ckk;have CK:Hid (∀W,CS 90 #[I J set,I J (d:Int)] W (H false)):=ckk;clear ckk hkp;go_wp2_with fail;refine (HC.out _).mono ?_;rintro e wb ⟨rfl,bb⟩;have ob:=aN hown bb;have hsb:=bb.size;have Bb:Below w.heap.size w wb:=hbel.trans (bb.mono hsz);clear bb hbel hown;go_wp2_with fail;refine (CK.out _).mono ?_;rintro e w' ⟨rfl,rfl⟩;go_wp2_with fail;refine (I1 s[k] d HD.out _ o w.heap.size _ ob om om).mono ?_;rintro e w1 ⟨v',rfl,hown',hb1⟩;have B1:Below w.heap.size w w1:=Bb.trans hb1;clear hb1 ob Bb;go_wp2;go_roundw
   case rel=>exact ⟨k+1,_,om,gn,by simp[pW];omega,hown',HN.out,B1⟩
   case measure=>exact j1
 have HO:=bG (P:=prog) wr 22 9 5 underlying22 underlying5 underlying9 hown;go_wp2;go_ret;exact ⟨oT (Da set s k om o HE.out),hbel⟩
