/- Parse4Walk, Par6Spec, Grp6Spec. -/
import Derived.Test.YtgcbaphbiaimoaaGreatDoorQP11
set_option maxHeartbeats 8000000
set_option maxRecDepth 20000
namespace Go.Proofs.YtgcbaphbiaimoaaGreatDoor
open Go.RowKit
theorem ztAz(fs:List ByteArray)(k n:Nat)(h: ¬k<fs.length):stF n ((fs.drop k).map toL)=some n:=by
 rw[List.drop_of_length_le (by omega)];rfl
theorem zsfz(fs:List ByteArray)(k n:Nat)(h:k<fs.length):stF n ((fs.drop k).map toL)=match str1 (toL (fs.getD k ByteArray.empty))with
  |none=>none
  |some v=>stF (n*256+v) ((fs.drop (k+1)).map toL):=by
 rw[vGz fs k h]
 rfl
theorem zqaz{y:ByteArray}(h:y.size=0):str1 (toL y)=none:=by
 have:toL y=[]:=List.eq_nil_of_length_eq_zero (by simpa[toL] using h)
 rw[this];rfl
theorem zsgz{y:ByteArray}(h:0<y.size):str1 (toL y)=match z4z 10 3 (toL y)with
  |none=>none
  |some v=>if 255<v∨1<y.size∧y[0].toNat=48 then none else some v:=by
 have e:=jqz y h
 unfold str1
 rw[show (toL y).isEmpty=false by unfold toL;rw[e];rfl]
 simp only[Bool.false_eq_true,if_false]
 cases z4z 10 3 (toL y)with
 |none=>rfl
 |some v=>
  simp only
  have e1:(1<(toL y).length∧(toL y).head? =some 48)↔(1<y.size∧y[0].toNat=48):=by
   have e2:(toL y).head? =some y[0]:=by unfold toL;rw[e];rfl
   have e3:(toL y).length=y.size:=by simp[toL]
   rw[e2,e3]
   constructor
   ·rintro ⟨a,b⟩
    exact ⟨a,by injection b with b;rw[b];rfl⟩
   rintro ⟨a,b⟩
   exact ⟨a,by rw[jiz (d:=48) b]⟩
  simp only[e1]
theorem ziXz(s:ByteArray)(w:World)(hs:s.size≤1048576):
  Calls Tryz.prog 219 #[.string s] w fun e w'=>e=.returned (y1z (p4 s.data.toList))∧Below w.heap.size w w':=by
 have CF:Hid (Calls Tryz.prog 93 #[.string s,.int .u8 46] w fun e w'=> ∃v,e=.returned v∧w'.ownsRow w.heap.size 9 1 v (zaz s 46).length (zrz (zaz s 46))∧Below w.heap.size w w'):=jJz s 46 w hs
 have hpos:0<(zaz s 46).length:=by simp[zaz]
 have hlen:(zaz s 46).length≤1048577:=by
  have:=(yAz s 46 s.size).2
  simp[zaz];omega
 have HSZ:Hid (∀x∈zaz s 46,x.size≤1048576):=xKz s hs
 have HP:Hid (p4 s.data.toList=if (zaz s 46).length=4 then stF 0 ((zaz s 46).map toL)else none):=by
  show _=_
  unfold p4
  rw[←zcLz,List.length_map]
 generalize zaz s 46=fs at CF hpos hlen HSZ HP
 by_cases h4:fs.length=4
 ·have HF:Hid (p4 s.data.toList=stF 0 (fs.map toL)):=by
   show _=_
   rw[HP.out,if_pos h4]
  have HM:Hid (fs.length=4):=h4
  go_enter Tryz.func219,Tryz.ntmps219
  go_wp2_with fail
  refine CF.out.mono ?_
  rintro e wa ⟨va,rfl,OV,ba⟩
  rcases zpz OV with ⟨h,_⟩|⟨_,g,cap,rfl⟩
  ·omega
  rw[h4]at OV⊢
  clear h4 hpos hlen CF HP
  go_wp2_with fail
  go_loop[5,6] (fun x i=> ∃(k n:Nat) (a:Int),k≤4∧i=.int .i64 k∧x=.int .i64 a∧a=(n:Int)∧n<256^k∧stF n ((fs.drop k).map toL)=stF 0 (fs.map toL)) (fun _ i=>4-(intOf i).toNat)
  case atStart=>exact ⟨0,0,0,by omega,rfl,rfl,rfl,by decide,rfl⟩
  obtain ⟨k,n,a,hk,rfl,rfl,ha,hn,hf⟩:=hrel
  have HR:Hid (stF n ((fs.drop k).map toL)=stF 0 (fs.map toL)):=hf
  have HN:Hid (n<256^k):=hn
  have HA:Hid (a=(n:Int)):=ha
  clear hf
  by_cases hlt:k<4
  ·have hn2:n<16777216:=Nat.lt_of_lt_of_le hn (zfJz (by omega))
   have ha0:0≤a:=by omega
   have ha1:a<16777216:=by omega
   clear hn hn2 ha
   have hc:=z0z OV k (by omega)
   have hsy:=HSZ.out _ (jLz (k:=k) (by have:=HM.out;omega))
   have HS:Hid (_=_):=zsfz fs k n (by have:=HM.out;omega)
   have CN:Hid (∀W,CS 57 #[.string (fs.getD k ByteArray.empty),.int .i64 10,.int .i64 3] W (.int .i64 (yLz (z4z 10 3 (toL (fs.getD k ByteArray.empty)))))):=fun W=>vhz _ 10 3 W (by omega) (by omega)
   generalize fs.getD k ByteArray.empty=y at hc hsy HS CN
   have hki:(k:Int)<4:=by omega
   by_cases he:y.size=0
   ·have HZ:Hid (p4 s.data.toList=none):=by
     show _=_
     rw[HF.out,←HR.out,HS.out,zqaz he]
    have hem:=zsz he
    clear he
    generalize yLz (z4z 10 3 (toL y))=z at CN
    go_wp2_with fail
    refine (CN.out _).mono ?_
    rintro e w' ⟨rfl,rfl⟩
    go_wp2_with fail
    go_ret2
    exact ⟨by rw[HZ.out];rfl,ba⟩
   have hpy:0<y.size:=by omega
   have hem:=zvz hpy
   have HS1:Hid (_=_):=zsgz hpy
   clear he
   cases hv:z4z 10 3 (toL y)with
   |none=>
    rw[hv]at CN HS1
    have HZ:Hid (p4 s.data.toList=none):=by
     show _=_
     rw[HF.out,←HR.out,HS.out,HS1.out]
    clear hv
    go_wp2_with fail
    refine (CN.out _).mono ?_
    rintro e w' ⟨rfl,rfl⟩
    simp only[yLz]
    go_wp2_with fail
    refine (zlz _ _ _ _ (by omega)).mono ?_
    rintro e w' ⟨rfl,rfl⟩
    go_wp2_with fail
    go_ret2
    exact ⟨by rw[HZ.out];rfl,ba⟩
   |some v=>
    rw[hv]at CN HS1
    clear hv
    obtain ⟨x,hx⟩: ∃x:Int,(v:Int)=x:=⟨_,rfl⟩
    have HX:Hid ((v:Int)=x):=hx
    have hx0:0≤x:=by omega
    by_cases hvr:255<v
    ·have HZ:Hid (p4 s.data.toList=none):=by
      show _=_
      rw[HF.out,←HR.out,HS.out,HS1.out]
      simp only
      rw[if_pos (.inl hvr)]
     have hx1:255<x:=by omega
     clear hvr hx
     go_wp2_with fail
     refine (CN.out _).mono ?_
     rintro e w' ⟨rfl,rfl⟩
     simp only[yLz]
     rw[HX.out]
     go_wp2_with fail
     refine (zlz _ _ _ _ (by omega)).mono ?_
     rintro e w' ⟨rfl,rfl⟩
     go_wp2_with fail
     go_ret2
     exact ⟨by rw[HZ.out];rfl,ba⟩
    have hx1:x≤255:=by omega
    have hx2:v<256:=by omega
    have HV:Hid (v<256):=hx2
    obtain ⟨d,hd⟩: ∃d:Nat,y[0].toNat=d:=⟨_,rfl⟩
    by_cases hq:1<y.size∧d=48
    ·have HZ:Hid (p4 s.data.toList=none):=by
      show _=_
      rw[HF.out,←HR.out,HS.out,HS1.out]
      simp only
      rw[if_pos (.inr ⟨hq.1,hd.trans hq.2⟩)]
     obtain ⟨hq1,rfl⟩:=hq
     have hq1':1<(y.size:Int):=by omega
     clear hvr hx hx2
     go_wp2_with fail
     refine (CN.out _).mono ?_
     rintro e w' ⟨rfl,rfl⟩
     simp only[yLz]
     rw[HX.out]
     go_wp2_with fail
     refine (zfz _ _ _ _ (by omega) (by omega)).mono ?_
     rintro e w' ⟨rfl,rfl⟩
     go_wp2_with fail
     go_ret2
     exact ⟨by rw[HZ.out];rfl,ba⟩
    have HG:Hid (stF (n*256+v) ((fs.drop (k+1)).map toL)=stF 0 (fs.map toL)):=by
     show _=_
     rw[←HR.out,HS.out,HS1.out]
     simp only
     rw[if_neg]
     rintro (h|⟨h,h'⟩)
     ·exact hvr h
     exact hq ⟨h,hd.symm.trans h'⟩
    clear hvr hx hx2
    by_cases hq1:1<y.size
    ·have hq1':1<(y.size:Int):=by omega
     have hq2:((d:Int)==48)=false:=by simp;omega
     clear hq
     go_wp2_with fail
     refine (CN.out _).mono ?_
     rintro e w' ⟨rfl,rfl⟩
     simp only[yLz]
     rw[HX.out]
     go_wp2_with fail
     refine (zfz _ _ _ _ (by omega) (by omega)).mono ?_
     rintro e w' ⟨rfl,rfl⟩
     go_wp2_with fail
     go_round
     case rel=>exact ⟨k+1,n*256+v,a*256+x,by omega,by go_num,by go_num,by have h1:=HA.out;have h2:=HX.out;omega,by have h1:=HN.out;have h2:=HV.out;rw[Nat.pow_succ];omega,HG.out⟩
     case measure=>simp[intOf];omega
    have hq1': ¬1<(y.size:Int):=by omega
    clear hq
    go_wp2_with fail
    refine (CN.out _).mono ?_
    rintro e w' ⟨rfl,rfl⟩
    simp only[yLz]
    rw[HX.out]
    go_wp2_with fail
    refine (zfz _ _ _ _ (by omega) (by omega)).mono ?_
    rintro e w' ⟨rfl,rfl⟩
    go_wp2_with fail
    go_round
    case rel=>exact ⟨k+1,n*256+v,a*256+x,by omega,by go_num,by go_num,by have h1:=HA.out;have h2:=HX.out;omega,by have h1:=HN.out;have h2:=HV.out;rw[Nat.pow_succ];omega,HG.out⟩
    case measure=>simp[intOf];omega
  have HZ:Hid (p4 s.data.toList=some n):=by
   show _=_
   rw[HF.out,←HR.out]
   exact ztAz fs k n (by have:=HM.out;omega)
  have hki: ¬(k:Int)<4:=by omega
  clear hn ha
  go_wp2_with fail
  go_ret2
  exact ⟨by rw[HZ.out];have h1:=HA.out;simp[y1z];exact h1,ba⟩
 have HZ:Hid (p4 s.data.toList=none):=by
  show _=_
  rw[HP.out,if_neg h4]
 have h4':((fs.length:Int)==4)=false:=by simp;omega
 clear h4 HP
 go_enter Tryz.func219,Tryz.ntmps219
 go_wp2_with fail
 refine CF.out.mono ?_
 rintro e wa ⟨va,rfl,OV,ba⟩
 rcases zpz OV with ⟨h,_⟩|⟨_,g,cap,rfl⟩
 ·omega
 have h0':0<(fs.length:Int):=by omega
 go_wp2_with fail
 refine wp_loop_rounds 1 ?_
 rw[rounds_succ]
 go_wp2_with fail
 go_ret2
 exact ⟨by rw[HZ.out];rfl,ba⟩
theorem ziYz(s:ByteArray)(w:World)(hs:s.size≤1048576)(hT:Pow w):
  Calls Tryz.prog 286 #[.string s] w fun e w'=>e=.returned (y1z (p4 s.data.toList))∧Below w.heap.size w w':=by
 have CL:Hid (CB 268 #[.string s] w (y1z (loA s))):=zdBz s w hs
 have HT:Hid (Pow w):=hT
 clear hT
 cases hl:loA s with
 |none=>
  have HZ:Hid (p4 s.data.toList=none):=zlDz hl
  rw[hl]at CL
  clear hl
  go_enter Tryz.func286,Tryz.ntmps286
  go_wp2_with fail
  refine CL.out.mono ?_
  rintro e wa ⟨rfl,ba⟩
  simp only[y1z]
  go_wp2_with fail
  go_ret2
  exact ⟨by rw[HZ.out];rfl,ba⟩
 |some n=>
  have hn:=zlCz hl
  rw[hl]at CL
  have CI:Hid (∀W,Pow W→CB 142 #[.int .i64 (n:Int)] W (.string (xaz n))):=fun W h=>zbCz n W (by omega) (by omega) h
  by_cases hq:xaz n=s
  ·have HZ:Hid (p4 s.data.toList=some n):=znWz hl (by rw[←hq];simp[xaz])
   have hst:=zlAz hq
   clear hl hq hn
   generalize xaz n=T at CI hst
   go_enter Tryz.func286,Tryz.ntmps286
   go_wp2_with fail
   refine CL.out.mono ?_
   rintro e wa ⟨rfl,ba⟩
   simp only[y1z]
   go_wp2_with fail
   refine (CI.out _ (yfz HT.out ba)).mono ?_
   rintro e wb ⟨rfl,bb⟩
   go_wp2_with fail
   go_ret2
   exact ⟨by rw[HZ.out];rfl,ba.trans (bb.mono ba.size)⟩
  have HZ:Hid (p4 s.data.toList=none):=zpqz hl (fun e=>hq (zIz (by show (xaz n).data.toList=s.data.toList;rw[←e];simp[xaz])))
  have hst:=za5z hq
  clear hl hq hn
  generalize xaz n=T at CI hst
  go_enter Tryz.func286,Tryz.ntmps286
  go_wp2_with fail
  refine CL.out.mono ?_
  rintro e wa ⟨rfl,ba⟩
  simp only[y1z]
  go_wp2_with fail
  refine (CI.out _ (yfz HT.out ba)).mono ?_
  rintro e wb ⟨rfl,bb⟩
  go_wp2_with fail
  go_ret2
  exact ⟨by rw[HZ.out];rfl,ba.trans (bb.mono ba.size)⟩
def x7z:List UInt8→Option Nat
 |[]=>none
 |c::r=>if c=58∧r.head? =some 58 then some 0 else (x7z r).map (· +1)
theorem zfqz: ∀l,z5z l=(x7z l).map fun k=>(l.take k,l.drop (k+2))
 |[]=>rfl
 |c::r=>by
  rw[z5z,x7z,zfqz r]
  split
  ·cases r<;>simp
  cases x7z r<;>simp
theorem zqbz: ∀{l:List UInt8} {k:Nat},x7z l=some k→k+2≤l.length
 |[],k,h=>by cases h
 |c::r,k,h=>by
  rw[x7z]at h
  split at h
  ·rename_i hc
   cases h
   cases r with
   |nil=>simp at hc
   |cons d q=>simp
  cases hr:x7z r with
  |none=>rw[hr]at h;cases h
  |some j=>
   rw[hr]at h
   cases h
   have:=zqbz hr
   simp
   omega
theorem zqcz(s:ByteArray)(k:Nat)(h:k+1<s.size):x7z (s.data.toList.drop k)=if s[k].toNat=58∧s[k+1].toNat=58 then some 0 else (x7z (s.data.toList.drop (k+1))).map (· +1):=by
 have h1:s.data.toList.drop k=s[k]::s.data.toList.drop (k+1):=List.drop_eq_getElem_cons (by simp;omega)
 have h2:s.data.toList.drop (k+1)=s[k+1]::s.data.toList.drop (k+1+1):=List.drop_eq_getElem_cons (by simp;omega)
 rw[h1,x7z]
 have h3:(s.data.toList.drop (k+1)).head? =some s[k+1]:=by rw[h2];rfl
 rw[h3]
 by_cases hc:s[k].toNat=58∧s[k+1].toNat=58
 ·rw[if_pos hc,if_pos ⟨jiz hc.1,by rw[jiz (d:=58) hc.2]⟩]
 rw[if_neg hc,if_neg]
 rintro ⟨a,b⟩
 apply hc
 injection b with b
 exact ⟨by rw[a];rfl,by rw[b];rfl⟩
theorem zshz(s:ByteArray)(k:Nat)(h: ¬k+1<s.size):x7z (s.data.toList.drop k)=none:=by
 have hl:(s.data.toList.drop k).length≤1:=by simp;omega
 match hd:s.data.toList.drop k,hl with
 |[],_=>rfl
 |[c],_=>simp[x7z]
 |_::_::_,hl=>simp at hl
def dblZ(r:Option Nat):Int:=match r with
 |none=> -1
 |some k=>k
theorem zlQz(s:ByteArray)(w:World)(hs:s.size≤1048576):
  Calls Tryz.prog 167 #[.string s] w fun e w'=>e=.returned (.int .i64 (dblZ (x7z s.data.toList)))∧Below w.heap.size w w':=by
 go_enter Tryz.func167,Tryz.ntmps167
 go_wp2
 go_loopw[3] (fun i wr=> ∃k:Nat,k≤s.size∧i=.int .i64 k∧x7z s.data.toList=(x7z (s.data.toList.drop k)).map (· +k)∧Below w.heap.size w wr) (fun i _=>s.size-(intOf i).toNat)
 case atStart=>exact ⟨0,Nat.zero_le _,rfl,by simp,Below.refl _ _⟩
 obtain ⟨k,hk,rfl,hd,hbel⟩:=hrel
 have HD:Hid (x7z s.data.toList=(x7z (s.data.toList.drop k)).map (· +k)):=hd
 clear hd
 by_cases hlt:k+1<s.size
 ·obtain ⟨c,hc⟩: ∃c:Nat,s[k].toNat=c:=⟨_,rfl⟩
  obtain ⟨d,hd⟩: ∃d:Nat,s[k+1].toNat=d:=⟨_,rfl⟩
  have HS:Hid (x7z (s.data.toList.drop k)=if c=58∧d=58 then some 0 else (x7z (s.data.toList.drop (k+1))).map (· +1)):=by
   show _=_
   rw[zqcz s k hlt,hc,hd]
  have hki:(k:Int)+1<(s.size:Int):=by omega
  by_cases hcd:c=58∧d=58
  ·have HZ:Hid (x7z s.data.toList=some k):=by
    show _=_
    rw[HD.out,HS.out,if_pos hcd]
    simp
   obtain ⟨rfl,rfl⟩:=hcd
   go_wp2_with fail
   go_ret
   exact ⟨by rw[HZ.out];rfl,hbel⟩
  have HG:Hid (x7z s.data.toList=(x7z (s.data.toList.drop (k+1))).map (· +(k+1))):=by
   show _=_
   rw[HD.out,HS.out,if_neg hcd]
   cases x7z (s.data.toList.drop (k+1))<;>simp<;>omega
  by_cases hc5:c=58
  ·have hd5:((d:Int)==58)=false:=by simp;omega
   subst hc5
   clear hcd
   go_wp2_with fail
   go_roundw
   case rel=>exact ⟨k+1,by omega,by go_num,HG.out,hbel⟩
   case measure=>simp[intOf];omega
  have hc5':((c:Int)==58)=false:=by simp;omega
  clear hcd hc5
  go_wp2_with fail
  go_roundw
  case rel=>exact ⟨k+1,by omega,by go_num,HG.out,hbel⟩
  case measure=>simp[intOf];omega
 have HZ:Hid (x7z s.data.toList=none):=by
  show _=_
  rw[HD.out,zshz s k hlt]
  rfl
 have hki: ¬(k:Int)+1<(s.size:Int):=by omega
 go_wp2_with fail
 go_ret
 exact ⟨by rw[HZ.out];rfl,hbel⟩
theorem Tryz.infoI5:(Tryz.prog.info? 3).map (fun i=>(i.zero,i.size,i.bytes))=some (some (.int .i64 0),1,8):=by kernel_rfl
def toI(gs:List Nat):List Int:=gs.map (fun n:Nat=>(n:Int))
theorem zdCz(gs:List Nat)(n:Nat):toI (gs++[n])=toI gs++[(n:Int)]:=by simp[toI]
theorem xyz(gs:List Nat):(toI gs).length=gs.length:=by simp[toI]
def ziZz(w w':World)(r:Option (List Nat))(e:Ending):Prop:=
 ∃(v:Value) (l:List Nat),e=.returned (.tuple #[v,.bool r.isSome])∧w'.ownsRow w.heap.size 3 1 v l.length (zkz (toI l))∧l.length≤1048580∧ ∀gs,r=some gs→l=gs
theorem zkjz(t:Bool)(fs:List ByteArray)(k:Nat)(h:k<fs.length):grp t ((fs.drop k).map toL)=match (if t=true∧k+1=fs.length then p4 (toL (fs.getD k ByteArray.empty))else none)with
  |some n=>some [n/65536,n%65536]
  |none=>match g16 (toL (fs.getD k ByteArray.empty))with
   |none=>none
   |some v=>(grp t ((fs.drop (k+1)).map toL)).map (v:: ·):=by
 rw[vGz fs k h,List.map_cons,grp]
 have e:(t&&((fs.drop (k+1)).map toL).isEmpty)=decide (t=true∧k+1=fs.length):=by
  have e2:((fs.drop (k+1)).map toL).isEmpty=decide (k+1=fs.length):=by
   by_cases h2:k+1=fs.length
   ·rw[decide_eq_true h2,List.drop_of_length_le (by omega)];rfl
   rw[decide_eq_false h2,vGz fs (k+1) (by omega)];rfl
  rw[e2]
  cases t<;>simp
 rw[e]
 by_cases c:t=true∧k+1=fs.length
 ·rw[decide_eq_true c,if_pos c];rfl
 rw[decide_eq_false c,if_neg c];rfl
theorem znfz(t:Bool)(fs:List ByteArray)(k:Nat)(h: ¬k<fs.length):grp t ((fs.drop k).map toL)=some []:=by
 rw[List.drop_of_length_le (by omega)];rfl
theorem zfrz{y:ByteArray}(h:y.size=0):g16 (toL y)=none:=by
 have:toL y=[]:=List.eq_nil_of_length_eq_zero (by simpa[toL] using h)
 rw[this];rfl
theorem zfsz{y:ByteArray}(h:0<y.size):g16 (toL y)=z4z 16 4 (toL y):=by
 unfold g16
 rw[show (toL y).isEmpty=false by unfold toL;rw[jqz y h];rfl]
 rfl
theorem zgdz{l:List UInt8}{v:Nat}(h:z4z 16 4 l=some v):v<65536:=by
 have key: ∀(l:List UInt8) (n:Nat) (m v:Nat),n<16^m→yUz 16 n l=some v→v<16^(m+l.length):=by
  intro l
  induction l with
  |nil=>intro n m v hn h;cases h;simpa using hn
  |cons c r ih=>
   intro n m v hn h
   rw[yUz]at h
   split at h
   ·rename_i hc
    have:=ih _ (m+1) v (zfEz (base:=16) (by omega) (by omega) hn) h
    rw[List.length_cons,show m+(r.length+1)=m+1+r.length by omega]
    exact this
   cases h
 unfold z4z at h
 split at h
 ·rename_i hl
  have h1:=key l 0 0 v (by decide) h
  exact Nat.lt_of_lt_of_le h1 (Nat.le_trans (Nat.pow_le_pow_right (n:=16) (j:=4) (by decide) (by omega)) (by decide))
 cases h
theorem zkkz{t:Bool}{s:ByteArray}(h:s.size=0):yhz t s.data.toList=some []:=by
 have:s.data.toList=[]:=List.eq_nil_of_length_eq_zero (by simpa using h)
 rw[this];rfl
theorem zeQz{t:Bool}{s:ByteArray}(h:0<s.size):yhz t s.data.toList=grp t ((zaz s 58).map toL):=by
 unfold yhz
 rw[show s.data.toList.isEmpty=false by rw[jqz s h];rfl,zlBz]
 rfl
theorem zbMz(s:ByteArray)(hs:s.size≤1048576): ∀x∈zaz s 58,x.size≤1048576:=fun x hx=>Nat.le_trans (vQz s 58 x hx) hs
theorem zcRz(s:ByteArray)(t:Bool)(w:World)(hs:s.size≤1048576):
  Calls Tryz.prog 168 #[.string s,.bool t] w fun e w'=>ziZz w w' (yhz t s.data.toList) e∧Below w.heap.size w w':=by
 have HO:(w.alloc (.cells #[] 3)).ownsRow w.heap.size 3 1 (.slice (some ⟨w.heap.size,0,none⟩) 0 0) 0 []:=World.ownsRow_lit w #[] 0 (Nat.le_refl _) (by decide) rfl
 by_cases h0:s.size=0
 ·have hem:=zsz h0
  have HZ:Hid (yhz t s.data.toList=some []):=zkkz h0
  clear h0
  go_enter Tryz.func168,Tryz.ntmps168
  go_wp2_with fail
  go_ret2
  exact ⟨⟨_,[],by rw[HZ.out];rfl,HO,by simp,fun gs h=>by rw[HZ.out]at h;cases h;rfl⟩,(Below.refl _ _).alloc (Nat.le_refl _) _⟩
 have hp:0<s.size:=by omega
 have hem:=zvz hp
 have HF:Hid (yhz t s.data.toList=grp t ((zaz s 58).map toL)):=zeQz hp
 have hpos:0<(zaz s 58).length:=by simp[zaz]
 have hlen:(zaz s 58).length≤1048577:=by
  have:=(yAz s 58 s.size).2
  simp[zaz];omega
 have HSZ:Hid (∀x∈zaz s 58,x.size≤1048576):=zbMz s hs
 have CF:Hid (∀W,Calls Tryz.prog 93 #[.string s,.int .u8 58] W fun e w'=> ∃v,e=.returned v∧w'.ownsRow W.heap.size 9 1 v (zaz s 58).length (zrz (zaz s 58))∧Below W.heap.size W w'):=fun W=>jJz s 58 W hs
 generalize zaz s 58=fs at HF hpos hlen HSZ CF
 clear h0
 go_enter Tryz.func168,Tryz.ntmps168
 go_wp2_with fail
 refine (CF.out _).mono ?_
 rintro e wa ⟨va,rfl,oa,ba⟩
 have OA:=zjz HO ba
 rcases zpz oa with ⟨h,_⟩|⟨_,g,cap,rfl⟩
 ·omega
 have hg:=(oa.lt g rfl).1
 have hg2:=(oa.lt g rfl).2
 have B0:Below w.heap.size w wa:=((Below.refl _ w).alloc (Nat.le_refl _) _).trans (ba.mono (by simp))
 have HC0:Hid (∀j,j<fs.length→wa.cell? ⟨g,j,none⟩=some (.string (fs.getD j ByteArray.empty))):=fun j hj=>z0z oa j hj
 clear ba HO oa CF
 go_wp2_with fail
 go_loopw[6,8] (fun v i wr=> ∃(k:Nat) (acc:List Nat),k≤fs.length∧i=.int .i64 k∧acc.length≤k∧grp t (fs.map toL)=(grp t ((fs.drop k).map toL)).map (acc++ ·)∧wr.ownsRow w.heap.size 3 1 v acc.length (zkz (toI acc))∧(∀j,j<fs.length→wr.cell? ⟨g,j,none⟩=some (.string (fs.getD j ByteArray.empty)))∧some g≠v.ownBlock∧g<wr.heap.size∧Below w.heap.size w wr)
  (fun _ i _=>fs.length-(intOf i).toNat)
 case atStart=>
  refine ⟨0,[],Nat.zero_le _,rfl,by simp,by simp,OA,HC0.out,?_,hg2,B0⟩
  simp[Value.ownBlock]
  simp at hg
  omega
 obtain ⟨k,acc,hk,rfl,hal,hr,ow,hcell,hne,hgl,hbel⟩:=hrel
 have HR:Hid (grp t (fs.map toL)=(grp t ((fs.drop k).map toL)).map (acc++ ·)):=hr
 have HCL:Hid (∀j,j<fs.length→wr.cell? ⟨g,j,none⟩=some (.string (fs.getD j ByteArray.empty))):=hcell
 have hsz:=hbel.size
 clear hr OA B0 HC0
 by_cases hlt:k<fs.length
 ·have hc:=hcell k hlt
  have hsy:=HSZ.out _ (jLz (k:=k) hlt)
  have HS:Hid (_=_):=zkjz t fs k hlt
  have CP:Hid (∀W,CB 219 #[.string (fs.getD k ByteArray.empty)] W (y1z (p4 (toL (fs.getD k ByteArray.empty))))):=fun W=>ziXz _ W hsy
  have CN:Hid (∀W,CS 57 #[.string (fs.getD k ByteArray.empty),.int .i64 16,.int .i64 4] W (.int .i64 (yLz (z4z 16 4 (toL (fs.getD k ByteArray.empty)))))):=fun W=>vhz _ 16 4 W (by omega) (by omega)
  have HCK:Hid (∀W,Below wr.heap.size wr W→W.cell? ⟨g,k,none⟩=some (.string (fs.getD k ByteArray.empty))):=fun W hb=>cell_later hb (HCL.out k hlt)
  clear hcell
  generalize fs.getD k ByteArray.empty=y at hc hsy HS CP CN HCK
  have hki:(k:Int)<(fs.length:Int):=by omega
  clear hsy
  go_wp2_with fail
  refine (CP.out _).mono ?_
  rintro e wb ⟨rfl,bb⟩
  have hcb:=HCK.out _ bb
  have o2:=zjz ow bb
  have B2:=hbel.trans (bb.mono hsz)
  have z2:=B2.size
  have hgl2:g<wb.heap.size:=Nat.lt_of_lt_of_le hgl bb.size
  have HC2:Hid (∀j,j<fs.length→wb.cell? ⟨g,j,none⟩=some (.string (fs.getD j ByteArray.empty))):=fun j hj=>cell_later bb (HCL.out j hj)
  clear hc ow hbel bb HCL HCK
  cases hp4:p4 (toL y)with
  |none=>
   have HN0:Hid ((if t=true∧k+1=fs.length then p4 (toL y)else none)=none):=by
    show _=_
    rw[hp4]
    split<;>rfl
   clear hp4
   simp only[y1z]
   by_cases he:y.size=0
   ·have HZ:Hid (yhz t s.data.toList=none):=by
     show _=_
     rw[HF.out,HR.out,HS.out,HN0.out,zfrz he]
     rfl
    have hem:=zsz he
    clear he
    generalize yLz (z4z 16 4 (toL y))=zz at CN
    go_wp2_with fail
    refine (CN.out _).mono ?_
    rintro e w' ⟨rfl,rfl⟩
    go_wp2_with fail
    go_ret2
    exact ⟨⟨_,acc,by rw[HZ.out];rfl,o2,by omega,fun gs h=>by rw[HZ.out]at h;cases h⟩,B2⟩
   have hpy:0<y.size:=by omega
   have hem:=zvz hpy
   have HS1:Hid (g16 (toL y)=z4z 16 4 (toL y)):=zfsz hpy
   clear he
   cases hv:z4z 16 4 (toL y)with
   |none=>
    rw[hv]at CN HS1
    have HZ:Hid (yhz t s.data.toList=none):=by
     show _=_
     rw[HF.out,HR.out,HS.out,HN0.out,HS1.out]
     rfl
    clear hv
    go_wp2_with fail
    refine (CN.out _).mono ?_
    rintro e w' ⟨rfl,rfl⟩
    simp only[yLz]
    go_wp2_with fail
    go_ret2
    exact ⟨⟨_,acc,by rw[HZ.out];rfl,o2,by omega,fun gs h=>by rw[HZ.out]at h;cases h⟩,B2⟩
   |some v=>
    have hvl:=zgdz hv
    rw[hv]at CN HS1
    have HG:Hid (grp t (fs.map toL)=(grp t ((fs.drop (k+1)).map toL)).map ((acc++[v])++ ·)):=by
     show _=_
     rw[HR.out,HS.out,HN0.out,HS1.out]
     simp only
     cases grp t ((fs.drop (k+1)).map toL)<;>simp
    clear hv
    obtain ⟨x,hx⟩: ∃x:Int,(v:Int)=x:=⟨_,rfl⟩
    have HX:Hid ((v:Int)=x):=hx
    have hx0: ¬x<0:=by omega
    clear hx hvl
    go_wp2_with fail
    refine (CN.out _).mono ?_
    rintro e w' ⟨rfl,rfl⟩
    simp only[yLz]
    rw[HX.out]
    go_wp2_with (at_builtin;refine yTz _ rfl _ _ 95 rfl w.heap.size 3 (.int .i64 0) 8 Tryz.underlying95 Tryz.infoI5 rfl _ _ _ rfl o2 #[.int .i64 x] 1 rfl rfl (by intro u hu;simp at hu;subst hu;rfl) (by omega) (by unfold maxLen;omega) z2 ?_)
    intro v' w1 ow' gr hat
    have R:w1.ownsRow w.heap.size 3 1 v' (acc++[v]).length (zkz (toI (acc++[v]))):=by
     rw[zdCz,HX.out,vZz,List.length_append]
     exact ow'
    have B3:Below w.heap.size w w1:=B2.grown gr z2 (fun k hk=>(o2.lt k hk).1)
    have hgw:w1.heap[g]? =wb.heap[g]? :=gr.block g hgl2 hne
    have C1:Hid (∀j,j<fs.length→w1.cell? ⟨g,j,none⟩=some (.string (fs.getD j ByteArray.empty))):=fun j hj=>
     (World.cell?_of_block (w:=wb) (a:=⟨g,j,none⟩) hgw).trans (HC2.out j hj)
    have hne1:some g≠v'.ownBlock:=by
     rcases hat with h|h
     ·rw[h];exact hne
     rw[h];intro h2;cases h2;omega
    have hgl1:g<w1.heap.size:=Nat.lt_of_lt_of_le hgl2 gr.size
    clear o2 ow' gr hat B2 hgw HC2
    go_wp2_with fail
    go_roundw
    case rel=>exact ⟨k+1,acc++[v],by omega,by go_num,by rw[List.length_append];simp;omega,HG.out,R,C1.out,hne1,hgl1,B3⟩
    case measure=>simp[intOf];omega
  |some n=>
   have hn4:=(j4z hp4).1
   by_cases hit:t=true∧k+1=fs.length
   ·obtain ⟨rfl,hk1⟩:=hit
    have HZ:Hid (yhz true s.data.toList=some (acc++[n/65536,n%65536])):=by
     show _=_
     rw[HF.out,HR.out,HS.out,if_pos ⟨rfl,hk1⟩,hp4]
     rfl
    have hkq:((k:Int)==(fs.length:Int)-1)=true:=by simp;omega
    obtain ⟨x,hx⟩: ∃x:Int,(n:Int)=x:=⟨_,rfl⟩
    have HX:Hid ((n:Int)=x):=hx
    have hx0:0≤x:=by omega
    have hx1:x<4294967296:=by omega
    have b2:bits .and .i64 x 65535=x%65536:=jpz 16 65535 rfl _ (by omega) (by omega) (by decide)
    clear hp4 hn4 hx
    simp only[y1z]
    rw[HX.out]
    go_wp2_with (at_builtin;refine zbz _ rfl _ _ 95 rfl w.heap.size 3 (.int .i64 0) 8 Tryz.underlying95 Tryz.infoI5 rfl _ _ _ rfl o2 #[.int .i64 (x/65536),.int .i64 (x%65536)] 2 rfl rfl (by intro u hu;simp at hu;rcases hu with rfl|rfl<;>rfl) (by omega) (by unfold maxLen;omega) z2 ?_)
    intro v' w1 ow' b3
    have R:w1.ownsRow w.heap.size 3 1 v' (acc++[n/65536,n%65536]).length (zkz (toI (acc++[n/65536,n%65536]))):=by
     have e1:((n/65536:Nat):Int)=x/65536:=by have:=HX.out;omega
     have e2:((n%65536:Nat):Int)=x%65536:=by have:=HX.out;omega
     have e3:zkz (toI (acc++[n/65536,n%65536]))=zkz (toI acc)++[.int .i64 (x/65536),.int .i64 (x%65536)]:=by
      simp only[toI,zkz,List.map_append,List.map_cons,List.map_nil,e1,e2]
     rw[e3,List.length_append]
     exact ow'
    have B3:=B2.trans b3
    clear ow' b3 o2 B2
    go_wp2_with fail
    go_ret2
    exact ⟨⟨_,_,by rw[HZ.out];rfl,R,by rw[List.length_append];simp;omega,fun gs h=>by rw[HZ.out]at h;cases h;rfl⟩,B3⟩
   have HN0:Hid ((if t=true∧k+1=fs.length then p4 (toL y)else none)=none):=by
    show _=_
    rw[if_neg hit]
   clear hp4 hn4
   simp only[y1z]
   cases t with
   |false=>
    clear hit
    by_cases he:y.size=0
    ·have HZ:Hid (yhz false s.data.toList=none):=by
      show _=_
      rw[HF.out,HR.out,HS.out,HN0.out,zfrz he]
      rfl
     have hem:=zsz he
     clear he
     generalize yLz (z4z 16 4 (toL y))=zz at CN
     go_wp2_with fail
     refine (CN.out _).mono ?_
     rintro e w' ⟨rfl,rfl⟩
     go_wp2_with fail
     go_ret2
     exact ⟨⟨_,acc,by rw[HZ.out];rfl,o2,by omega,fun gs h=>by rw[HZ.out]at h;cases h⟩,B2⟩
    have hpy:0<y.size:=by omega
    have hem:=zvz hpy
    have HS1:Hid (g16 (toL y)=z4z 16 4 (toL y)):=zfsz hpy
    clear he
    cases hv:z4z 16 4 (toL y)with
    |none=>
     rw[hv]at CN HS1
     have HZ:Hid (yhz false s.data.toList=none):=by
      show _=_
      rw[HF.out,HR.out,HS.out,HN0.out,HS1.out]
      rfl
     clear hv
     go_wp2_with fail
     refine (CN.out _).mono ?_
     rintro e w' ⟨rfl,rfl⟩
     simp only[yLz]
     go_wp2_with fail
     go_ret2
     exact ⟨⟨_,acc,by rw[HZ.out];rfl,o2,by omega,fun gs h=>by rw[HZ.out]at h;cases h⟩,B2⟩
    |some v=>
     have hvl:=zgdz hv
     rw[hv]at CN HS1
     have HG:Hid (grp false (fs.map toL)=(grp false ((fs.drop (k+1)).map toL)).map ((acc++[v])++ ·)):=by
      show _=_
      rw[HR.out,HS.out,HN0.out,HS1.out]
      simp only
      cases grp false ((fs.drop (k+1)).map toL)<;>simp
     clear hv
     obtain ⟨x,hx⟩: ∃x:Int,(v:Int)=x:=⟨_,rfl⟩
     have HX:Hid ((v:Int)=x):=hx
     have hx0: ¬x<0:=by omega
     clear hx hvl
     go_wp2_with fail
     refine (CN.out _).mono ?_
     rintro e w' ⟨rfl,rfl⟩
     simp only[yLz]
     rw[HX.out]
     go_wp2_with (at_builtin;refine yTz _ rfl _ _ 95 rfl w.heap.size 3 (.int .i64 0) 8 Tryz.underlying95 Tryz.infoI5 rfl _ _ _ rfl o2 #[.int .i64 x] 1 rfl rfl (by intro u hu;simp at hu;subst hu;rfl) (by omega) (by unfold maxLen;omega) z2 ?_)
     intro v' w1 ow' gr hat
     have R:w1.ownsRow w.heap.size 3 1 v' (acc++[v]).length (zkz (toI (acc++[v]))):=by
      rw[zdCz,HX.out,vZz,List.length_append]
      exact ow'
     have B3:Below w.heap.size w w1:=B2.grown gr z2 (fun k hk=>(o2.lt k hk).1)
     have hgw:w1.heap[g]? =wb.heap[g]? :=gr.block g hgl2 hne
     have C1:Hid (∀j,j<fs.length→w1.cell? ⟨g,j,none⟩=some (.string (fs.getD j ByteArray.empty))):=fun j hj=>
      (World.cell?_of_block (w:=wb) (a:=⟨g,j,none⟩) hgw).trans (HC2.out j hj)
     have hne1:some g≠v'.ownBlock:=by
      rcases hat with h|h
      ·rw[h];exact hne
      rw[h];intro h2;cases h2;omega
     have hgl1:g<w1.heap.size:=Nat.lt_of_lt_of_le hgl2 gr.size
     clear o2 ow' gr hat B2 hgw HC2
     go_wp2_with fail
     go_roundw
     case rel=>exact ⟨k+1,acc++[v],by omega,by go_num,by rw[List.length_append];simp;omega,HG.out,R,C1.out,hne1,hgl1,B3⟩
     case measure=>simp[intOf];omega
   |true=>
    have hkq:((k:Int)==(fs.length:Int)-1)=false:=by
     have h2: ¬k+1=fs.length:=fun h=>hit ⟨rfl,h⟩
     simp
     omega
    clear hit
    by_cases he:y.size=0
    ·have HZ:Hid (yhz true s.data.toList=none):=by
      show _=_
      rw[HF.out,HR.out,HS.out,HN0.out,zfrz he]
      rfl
     have hem:=zsz he
     clear he
     generalize yLz (z4z 16 4 (toL y))=zz at CN
     go_wp2_with fail
     refine (CN.out _).mono ?_
     rintro e w' ⟨rfl,rfl⟩
     go_wp2_with fail
     go_ret2
     exact ⟨⟨_,acc,by rw[HZ.out];rfl,o2,by omega,fun gs h=>by rw[HZ.out]at h;cases h⟩,B2⟩
    have hpy:0<y.size:=by omega
    have hem:=zvz hpy
    have HS1:Hid (g16 (toL y)=z4z 16 4 (toL y)):=zfsz hpy
    clear he
    cases hv:z4z 16 4 (toL y)with
    |none=>
     rw[hv]at CN HS1
     have HZ:Hid (yhz true s.data.toList=none):=by
      show _=_
      rw[HF.out,HR.out,HS.out,HN0.out,HS1.out]
      rfl
     clear hv
     go_wp2_with fail
     refine (CN.out _).mono ?_
     rintro e w' ⟨rfl,rfl⟩
     simp only[yLz]
     go_wp2_with fail
     go_ret2
     exact ⟨⟨_,acc,by rw[HZ.out];rfl,o2,by omega,fun gs h=>by rw[HZ.out]at h;cases h⟩,B2⟩
    |some v=>
     have hvl:=zgdz hv
     rw[hv]at CN HS1
     have HG:Hid (grp true (fs.map toL)=(grp true ((fs.drop (k+1)).map toL)).map ((acc++[v])++ ·)):=by
      show _=_
      rw[HR.out,HS.out,HN0.out,HS1.out]
      simp only
      cases grp true ((fs.drop (k+1)).map toL)<;>simp
     clear hv
     obtain ⟨x,hx⟩: ∃x:Int,(v:Int)=x:=⟨_,rfl⟩
     have HX:Hid ((v:Int)=x):=hx
     have hx0: ¬x<0:=by omega
     clear hx hvl
     go_wp2_with fail
     refine (CN.out _).mono ?_
     rintro e w' ⟨rfl,rfl⟩
     simp only[yLz]
     rw[HX.out]
     go_wp2_with (at_builtin;refine yTz _ rfl _ _ 95 rfl w.heap.size 3 (.int .i64 0) 8 Tryz.underlying95 Tryz.infoI5 rfl _ _ _ rfl o2 #[.int .i64 x] 1 rfl rfl (by intro u hu;simp at hu;subst hu;rfl) (by omega) (by unfold maxLen;omega) z2 ?_)
     intro v' w1 ow' gr hat
     have R:w1.ownsRow w.heap.size 3 1 v' (acc++[v]).length (zkz (toI (acc++[v]))):=by
      rw[zdCz,HX.out,vZz,List.length_append]
      exact ow'
     have B3:Below w.heap.size w w1:=B2.grown gr z2 (fun k hk=>(o2.lt k hk).1)
     have hgw:w1.heap[g]? =wb.heap[g]? :=gr.block g hgl2 hne
     have C1:Hid (∀j,j<fs.length→w1.cell? ⟨g,j,none⟩=some (.string (fs.getD j ByteArray.empty))):=fun j hj=>
      (World.cell?_of_block (w:=wb) (a:=⟨g,j,none⟩) hgw).trans (HC2.out j hj)
     have hne1:some g≠v'.ownBlock:=by
      rcases hat with h|h
      ·rw[h];exact hne
      rw[h];intro h2;cases h2;omega
     have hgl1:g<w1.heap.size:=Nat.lt_of_lt_of_le hgl2 gr.size
     clear o2 ow' gr hat B2 hgw HC2
     go_wp2_with fail
     go_roundw
     case rel=>exact ⟨k+1,acc++[v],by omega,by go_num,by rw[List.length_append];simp;omega,HG.out,R,C1.out,hne1,hgl1,B3⟩
     case measure=>simp[intOf];omega
 have HZ:Hid (yhz t s.data.toList=some acc):=by
  show _=_
  rw[HF.out,HR.out,znfz t fs k hlt]
  simp
 have hki: ¬(k:Int)<(fs.length:Int):=by omega
 clear hcell HCL
 go_wp2_with fail
 go_ret2
 exact ⟨⟨_,acc,by rw[HZ.out];rfl,ow,by omega,fun gs h=>by rw[HZ.out]at h;cases h;rfl⟩,hbel⟩
end Go.Proofs.YtgcbaphbiaimoaaGreatDoor
