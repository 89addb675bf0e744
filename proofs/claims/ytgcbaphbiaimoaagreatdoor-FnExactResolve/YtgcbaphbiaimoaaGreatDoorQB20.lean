/- AscSpec, NameSpec, NameImpl. -/
import Derived.Test.YtgcbaphbiaimoaaGreatDoorQB19
set_option maxHeartbeats 4000000
namespace Go.Proofs.YtgcbaphbiaimoaaGreatDoor
open Go.Value renaming string->I,tuple->L,bool->Y
open Go.Ending renaming returned->J
open _root_.Array renaming toList_extract->zs,toList_inj->zo
open _root_.Go.RowKit.Below renaming refl->zu
open _root_.ByteArray renaming data_extract->zp,empty->zc,ext->zt,size_append->zd
open _root_.List renaming eq_nil_of_length_eq_zero->zg,getD_eq_getElem?_getD->ze,getElem?_eq_getElem->zf,getElem_mem->zh,length_append->zk,length_take->zj,size_toArray->zn,take_append_drop->zr,take_length->zi
open _root_.Nat renaming le_refl->zl,zero_add->zq,zero_le->zm
open _root_.Go.Proofs.Tryz
open _root_.Go.Proofs.YtgcbaphbiaimoaaGreatDoor.Tryz
open Go.RowKit
theorem ext4(s:ByteArray):(s.extract 0 4).data.toList=s.data.toList.take 4:=by
 rw[zp,zs];simp
theorem Ea(s:ByteArray):s.extract 4 s.size=⟨(s.data.toList.drop 4).toArray⟩:=by
 apply zt;apply zo.1;rw[zp,zs];simp;exact List.take_of_length_le j2
theorem Eb(s:ByteArray)(h:4<=s.size):((s.extract 0 4).toList==[120,110,45,45])=pO s.data.toList:=by
 rw[ByteArray.toList_eq,ext4];have hl:4<=s.data.toList.length:=by simpa using h
 generalize s.data.toList=l at hl
 match l,hl with
 |a::b::c::d::r,_=>
  unfold pO xn;simp[List.isPrefixOf];rw[Bool.eq_iff_iff];simp;constructor
  .rintro ⟨rfl,rfl,rfl,rfl⟩;exact ⟨rfl,rfl,rfl,rfl⟩
  rintro ⟨h1,h2,h3,h4⟩;exact ⟨h1.symm,h2.symm,h3.symm,h4.symm⟩
theorem IG(s:ByteArray)(h:s.size<4):pO s.data.toList=false:=by
 cases hx:pO s.data.toList with
 |false=>rfl
 |true=>
  have:=congrArg List.length (LK hx)
  rw[zk]at this;have hl:s.data.toList.length=s.size:=by simp
  simp[xn]at this;omega
theorem IH{l:List UInt8}(h:pO l=true):iJ l=dB (KB (l.drop 4)):=if_pos h
theorem Ec(l:List Nat)(k:Nat)(h:k<l.length):(l.take (k+1)).all (fun c=>decide (c<128))=((l.take k).all (fun c=>decide (c<128))&&decide (l.getD k 0<128)):=by
 rw[List.take_succ_eq_append_getElem h,List.all_append];simp[List.getD,h]
theorem DB(s:ByteArray)(w:World)(hs:s.size<=1048576)(hlab:eS s.data.toList=true):Calls prog 191 #[I s] w fun e w'=>lD w w' (iJ s.data.toList) e/\Below w.heap.size w w':=by
 have HO:Hid (∀W:World,(W.alloc (.cells #[] 3)).ownsRow W.heap.size 3 1 (.slice (some ⟨W.heap.size,0,none⟩) 0 0) 0 []):=fun W=>World.ownsRow_lit W #[] 0 (zl _) de rfl
 have hs':(s.size:Int)<=1048576:=om
 by_cases h4:s.size<4
 .have h4':(s.size:Int)<4:=om
  have HR:Hid (iJ s.data.toList=none):=if_neg (by rw[IG s h4];decide);go_enter func191,ntmps191;go_wp2_with fail;go_ret2;rw[HR.out];exact ⟨⟨_,rfl,HO.out w⟩,(zu _ _).alloc (zl _) _⟩
 have h4': ¬(s.size:Int)<4:=om;have h4n:4<=s.size:=om;have hxe:=Eb s h4n
 cases hx:pO s.data.toList with
 |false=>
  rw[hx]at hxe;have HR:Hid (iJ s.data.toList=none):=if_neg (by rw[hx];decide);clear hx;go_enter func191,ntmps191;go_wp2_with fail;go_ret2;rw[HR.out];exact ⟨⟨_,rfl,HO.out w⟩,(zu _ _).alloc (zl _) _⟩
 |true=>
  rw[hx]at hxe;have HD:=fun l=> @Hz s.data.toList l hx hlab
  rw[<-IH hx]at HD;have HD:Hid (∀l,iJ s.data.toList=some l->(∃x∈l,128<=x)/\ ∀x∈l,¬(65<=x/\x<=90)):=HD;have CD:Hid (∀W,Calls prog 230 #[I (s.extract 4 s.size)] W fun e w'=>lD W w' (iJ s.data.toList) e/\Below W.heap.size W w'):=fun W=>by
   rw[Ea s,IH hx];exact YU ⟨(s.data.toList.drop 4).toArray⟩ W
  clear hx;go_enter func191,ntmps191;go_wp2_with fail;refine (CD.out _).mono ?_;rintro e wa ⟨hd,ba⟩;have hsz:=ba.size
  cases hr:iJ s.data.toList with
  |none=>
   rw[hr]at hd;obtain ⟨v,rfl,ov⟩:=hd;have HR:Hid (iJ s.data.toList=none):=hr;clear hr HD CD
   rcases aY ov with ⟨_,_,ao,cap,rfl⟩|⟨h,_⟩
   .go_wp2_with fail
    go_loop[6,7] (fun p i=>p=Y true/\i=.int .i64 0) (fun _ _=>0)
    case atStart=>exact ⟨rfl,rfl⟩
    obtain ⟨rfl,rfl⟩:=hrel;go_wp2_with fail;go_ret2;rw[HR.out];exact ⟨⟨_,rfl,Bt (HO.out wa) hsz⟩,ba.alloc hsz _⟩
   omega
  |some l=>
   rw[hr]at hd;obtain ⟨v,rfl,ov⟩:=hd;obtain ⟨hx1,hx2⟩:=HD.out l hr;have HR:Hid (iJ s.data.toList=some l):=hr;have HX:Hid (∀x∈l,¬(65<=x/\x<=90)):=hx2;have HP:Hid (l.all (fun c=>decide (c<128))=false):=by
    obtain ⟨x,hx,h128⟩:=hx1;show _=_;rw[List.all_eq_false];exact ⟨x,hx,by simpa using h128⟩
   clear hr HD CD hx2
   rcases aY ov with ⟨h0,_⟩|⟨_,g,cap,rfl⟩
   .obtain ⟨x,hx,_⟩:=hx1
    have:l=[]:=zg h0
    rw[this]at hx;simp at hx
   clear hx1;have hll:l.length<=1048576:=by
    obtain ⟨hok,_⟩:=(rM _ _).1 ((IH (by cases h:pO s.data.toList with|true=>rfl|false=>have h2:=HR.out;unfold iJ at h2;rw[h]at h2;simp at h2)).symm.trans HR.out)
    have:=(bU hok).1
    omega
   have HC:Hid (∀j,j<l.length->wa.cell? ⟨g,j,none⟩=some (.int .i64 (l.getD j 0:Nat))):=fun j hj=>lC ov j hj
   have HV:Hid (wa.ownsRow w.heap.size 3 1 (.slice (some ⟨g,0,none⟩) l.length cap) l.length (icN l)):=ov;clear ov;go_wp2_with fail
   go_loop[6,7] (fun p i=> ∃k:Nat,k<=l.length/\p=Y ((l.take k).all (fun c=>decide (c<128)))/\i=.int .i64 k) (fun _ i=>l.length-(intOf i).toNat)
   case atStart=>exact ⟨0,zm _,rfl,rfl⟩
   obtain ⟨k,hk,rfl,rfl⟩:=hrel
   by_cases hlt:k<l.length
   .have hc:=HC.out k hlt
    have HS:Hid ((l.take (k+1)).all (fun c=>decide (c<128))=((l.take k).all (fun c=>decide (c<128))&&decide (l.getD k 0<128))):=Ec l k hlt;have HN:Hid (¬(65<=l.getD k 0/\l.getD k 0<=90)):=HX.out _ (by rw[ze,zf hlt];exact zh hlt);obtain ⟨y,hy⟩: ∃y,l.getD k 0=y:=⟨_,rfl⟩;rw[hy]at hc HS HN;generalize (l.take k).all (fun c=>decide (c<128))=b at HS;have hkl:(k:Int)<l.length:=om;clear hy;have CI:Hid (∀W,CS 39 #[.int .i64 (y:Int),.int .i64 65,.int .i64 90] W (Y false)):=fun W=>iG _ _ _ W (by have:=HN.out;omega)
    cases b with
    |false=>
     go_wp2_with fail;refine (CI.out _).mono ?_;rintro e w' ⟨rfl,rfl⟩;go_wp2_with fail;go_round
     case rel=>exact ⟨k+1,om,by rw[HS.out];rfl,gn⟩
     case measure=>exact j1
    |true=>
     go_wp2_with fail;refine (CI.out _).mono ?_;rintro e w' ⟨rfl,rfl⟩;go_wp2_with fail;go_round
     case rel=>exact ⟨k+1,om,by rw[HS.out];simp;omega,gn⟩
     case measure=>exact j1
   have hks:k=l.length:=om;have HB:(l.take k).all (fun c=>decide (c<128))=false:=by rw[hks,zi];exact HP.out
   rw[HB];clear HB;subst hks;go_wp2_with fail;go_ret2;rw[HR.out];exact ⟨⟨_,rfl,HV.out⟩,ba⟩
theorem tD(s:ByteArray)(w:World)(hs:s.size<=1048576):Calls prog 137 #[I s] w fun e w'=>e=J (dW (fQ s.data.toList))/\Below w.heap.size w w':=by
 have CLo:Hid (CB 52 #[I s] w (I ⟨(aE s.data.toList).toArray⟩)):=zS s w hs;have hls:=sS s;have HLS:Hid ((⟨(aE s.data.toList).toArray⟩:ByteArray).size<=1048576):=by show _<=_;omega
 have CA:Hid (∀W,CS 187 #[I s] W (Y (fY s.data.toList))):=fun W=>O4 s W (by unfold maxLen;omega)
 cases ha:fY s.data.toList with
 |true=>
  rw[ha]at CA;have HAS:Hid (fQ s.data.toList=if okA (aE s.data.toList)=true then some (aE s.data.toList)else none):=FT ha;clear ha hls;generalize aE s.data.toList=t at CLo HAS HLS;go_enter func137,ntmps137;go_wp2_with fail;refine CLo.out.mono ?_;rintro e wa ⟨rfl,ba⟩;go_wp2_with fail;refine (CA.out _).mono ?_;rintro e w' ⟨rfl,rfl⟩;have HK:=yZ t;have hzm:(⟨t.toArray⟩:ByteArray).size<=1048576:=HLS.out;obtain ⟨S,hS⟩: ∃S:ByteArray,S=⟨t.toArray⟩:=⟨_,rfl⟩;have hSt:S.data.toList=t:=by rw[hS]
  rw[<-hS]at hzm;rw[<-hSt]at HK;have HSS:Hid (S=⟨t.toArray⟩):=hS;have HST:Hid (S.data.toList=t):=hSt;rw[<-hS];clear hS hSt
  cases hl:eS S.data.toList with
  |false=>
   have HF:Hid (dW (fQ s.data.toList)=L #[I ⟨#[]⟩,Y false]):=tC HAS.out (by rw[<-HST.out,HK,hl];rfl);have CL:Hid (∀W,CS 190 #[I S] W (Y false)):=fun W=>by
    have h:=pG S W (by unfold maxLen;omega);rw[hl]at h;exact h
   clear HK hl
   try go_wp2_with fail
   refine (CL.out _).mono ?_;rintro e w' ⟨rfl,rfl⟩;go_wp2_with fail;go_ret2;exact ⟨by rw[HF.out];rfl,ba⟩
  |true=>
   have CL:Hid (∀W,CS 190 #[I S] W (Y true)):=fun W=>by
    have h:=pG S W (by unfold maxLen;omega);rw[hl]at h;exact h
   have CK:Hid (∀W,Calls prog 191 #[I S] W fun e w'=>lD W w' (iJ S.data.toList) e/\Below W.heap.size W w'):=fun W=>DB S W hzm hl
   rw[hl]at HK
   by_cases h4:S.size<4
   .have h4': ¬4<=(S.size:Int):=om
    have HF:Hid (dW (fQ s.data.toList)=L #[I S,Y true]):=by
     show _=_;rw[HSS.out];exact pI HAS.out (by rw[<-HST.out,HK,IG S h4];rfl)
    clear HK hl
    try go_wp2_with fail
    refine (CL.out _).mono ?_;rintro e w' ⟨rfl,rfl⟩;go_wp2_with fail;go_ret2;exact ⟨by rw[HF.out];rfl,ba⟩
   have h4':4<=(S.size:Int):=om;have hxe:=Eb S om
   cases hx:pO S.data.toList with
   |false=>
    rw[hx]at hxe;have HF:Hid (dW (fQ s.data.toList)=L #[I S,Y true]):=by
     show _=_;rw[HSS.out];exact pI HAS.out (by rw[<-HST.out,HK,hx];rfl)
    clear HK hl hx
    try go_wp2_with fail
    refine (CL.out _).mono ?_;rintro e w' ⟨rfl,rfl⟩;go_wp2_with fail;go_ret2;exact ⟨by rw[HF.out];rfl,ba⟩
   |true=>
    rw[hx]at hxe
    cases hr:iJ S.data.toList with
    |none=>
     have HF:Hid (dW (fQ s.data.toList)=L #[I ⟨#[]⟩,Y false]):=tC HAS.out (by rw[<-HST.out,HK,hx,hr];rfl);rw[hr]at CK;clear HK hl hx hr
     try go_wp2_with fail
     refine (CL.out _).mono ?_;rintro e w' ⟨rfl,rfl⟩;go_wp2_with fail;refine (CK.out _).mono ?_;rintro e wz ⟨⟨v,rfl,_⟩,bz⟩;have B:=ba.trans (bz.mono ba.size);clear bz;go_wp2_with fail;go_ret2;exact ⟨by rw[HF.out];rfl,B⟩
    |some l=>
     have HF:Hid (dW (fQ s.data.toList)=L #[I S,Y true]):=by
      show _=_;rw[HSS.out];exact pI HAS.out (by rw[<-HST.out,HK,hx,hr];rfl)
     rw[hr]at CK;clear HK hl hx hr
     try go_wp2_with fail
     refine (CL.out _).mono ?_;rintro e w' ⟨rfl,rfl⟩;go_wp2_with fail;refine (CK.out _).mono ?_;rintro e wz ⟨⟨v,rfl,_⟩,bz⟩;have B:=ba.trans (bz.mono ba.size);clear bz;go_wp2_with fail;go_ret2;exact ⟨by rw[HF.out];rfl,B⟩
 |false=>
  rw[ha]at CA;have hz:(⟨(aE s.data.toList).toArray⟩:ByteArray).size=s.data.toList.length:=by rw[sS];simp
  have CR:Hid (∀W,Calls prog 188 #[I ⟨(aE s.data.toList).toArray⟩] W fun e w'=>qQ ⟨(aE s.data.toList).toArray⟩ W e w'):=fun W=>T8 _ W HLS.out
  by_cases hy1:(cS ⟨(aE s.data.toList).toArray⟩).1=(⟨(aE s.data.toList).toArray⟩:ByteArray).size
  .have HAO:=uG _ hy1
   have hfl:=QF ⟨(aE s.data.toList).toArray⟩;have HEN:Hid (∀(W:World) (v:Value) (B:Nat),W.ownsRow B 3 1 v (cS ⟨(aE s.data.toList).toArray⟩).2.length (aO (cS ⟨(aE s.data.toList).toArray⟩).2)->CB 189 #[v] W (oK (cS ⟨(aE s.data.toList).toArray⟩).2)):=
    fun W v B h=>yW _ v B W HAO om h
   by_cases hy2:(cS ⟨(aE s.data.toList).toArray⟩).2.length<=60
   .have HAS0:=TF ha ⟨hy1.trans hz,hy2⟩
    have e1:oK (cS ⟨(aE s.data.toList).toArray⟩).2=L #[I ⟨(b8 (bJ ((cS ⟨(aE s.data.toList).toArray⟩).2.map Int.toNat))).toArray⟩,Y true]:=if_pos hy2;rw[e1]at HEN;have HN:=xU (qR HAO hy2);generalize bJ ((cS ⟨(aE s.data.toList).toArray⟩).2.map Int.toNat)=q at HAS0 HEN HN;have HX:Hid ((⟨#[120,110,45,45]⟩:ByteArray)++⟨(b8 q).toArray⟩=⟨(xn++b8 q).toArray⟩):=by
     show _=_;apply zt;rw[ByteArray.data_append];apply zo.1;simp[xn]
    have hzq:(⟨(b8 q).toArray⟩:ByteArray).size<=600:=by
     show (b8 q).toArray.size<=600;rw[zn,tZ];exact HN
    obtain ⟨T,hTT⟩: ∃T:ByteArray,⟨(b8 q).toArray⟩=T:=⟨_,rfl⟩;have HM2:Hid (ByteArray.size ⟨(xn++b8 q).toArray⟩<=1048576):=by
     show (xn++b8 q).toArray.size<=1048576;rw[zn,zk,tZ];simp[xn];omega
    have HAS:Hid (fQ s.data.toList=if okA (xn++b8 q)=true then some (xn++b8 q)else none):=HAS0;clear HAS0;generalize xn++b8 q=t at HAS HM2 HX;rw[hTT]at HEN HX hzq;have HY1:Hid ((cS ⟨(aE s.data.toList).toArray⟩).1=(⟨(aE s.data.toList).toArray⟩:ByteArray).size):=hy1;clear ha hy1 hy2 hz HN HAO hfl hls e1 hTT;go_enter func137,ntmps137;go_wp2_with fail;refine CLo.out.mono ?_;rintro e wa ⟨rfl,ba⟩;go_wp2_with fail;refine (CA.out _).mono ?_;rintro e w' ⟨rfl,rfl⟩;go_wp2_with fail;refine (CR.out _).mono ?_;rintro e wb (⟨_,vb,rfl,ob,bb⟩|⟨hn,_⟩)
    .go_wp2_with fail
     refine (HEN.out _ _ _ ob).mono ?_;rintro e wc ⟨rfl,bc⟩;have b2:=ba.trans (bb.mono ba.size);have b3:=b2.trans (bc.mono b2.size);clear ba bb ob b2 bc;go_wp2_with fail;rw[HX.out];have HK:=yZ t;have hzm:(⟨t.toArray⟩:ByteArray).size<=1048576:=HM2.out;obtain ⟨S,hS⟩: ∃S:ByteArray,S=⟨t.toArray⟩:=⟨_,rfl⟩;have hSt:S.data.toList=t:=by rw[hS]
     rw[<-hS]at hzm;rw[<-hSt]at HK;have HSS:Hid (S=⟨t.toArray⟩):=hS;have HST:Hid (S.data.toList=t):=hSt;rw[<-hS];clear hS hSt
     cases hl:eS S.data.toList with
     |false=>
      have HF:Hid (dW (fQ s.data.toList)=L #[I ⟨#[]⟩,Y false]):=tC HAS.out (by rw[<-HST.out,HK,hl];rfl);have CL:Hid (∀W,CS 190 #[I S] W (Y false)):=fun W=>by
       have h:=pG S W (by unfold maxLen;omega);rw[hl]at h;exact h
      clear HK hl
      try go_wp2_with fail
      refine (CL.out _).mono ?_;rintro e w' ⟨rfl,rfl⟩;go_wp2_with fail;go_ret2;exact ⟨by rw[HF.out];rfl,b3⟩
     |true=>
      have CL:Hid (∀W,CS 190 #[I S] W (Y true)):=fun W=>by
       have h:=pG S W (by unfold maxLen;omega);rw[hl]at h;exact h
      have CK:Hid (∀W,Calls prog 191 #[I S] W fun e w'=>lD W w' (iJ S.data.toList) e/\Below W.heap.size W w'):=fun W=>DB S W hzm hl
      rw[hl]at HK
      by_cases h4:S.size<4
      .have h4': ¬4<=(S.size:Int):=om
       have HF:Hid (dW (fQ s.data.toList)=L #[I S,Y true]):=by
        show _=_;rw[HSS.out];exact pI HAS.out (by rw[<-HST.out,HK,IG S h4];rfl)
       clear HK hl
       try go_wp2_with fail
       refine (CL.out _).mono ?_;rintro e w' ⟨rfl,rfl⟩;go_wp2_with fail;go_ret2;exact ⟨by rw[HF.out];rfl,b3⟩
      have h4':4<=(S.size:Int):=om;have hxe:=Eb S om
      cases hx:pO S.data.toList with
      |false=>
       rw[hx]at hxe;have HF:Hid (dW (fQ s.data.toList)=L #[I S,Y true]):=by
        show _=_;rw[HSS.out];exact pI HAS.out (by rw[<-HST.out,HK,hx];rfl)
       clear HK hl hx
       try go_wp2_with fail
       refine (CL.out _).mono ?_;rintro e w' ⟨rfl,rfl⟩;go_wp2_with fail;go_ret2;exact ⟨by rw[HF.out];rfl,b3⟩
      |true=>
       rw[hx]at hxe
       cases hr:iJ S.data.toList with
       |none=>
        have HF:Hid (dW (fQ s.data.toList)=L #[I ⟨#[]⟩,Y false]):=tC HAS.out (by rw[<-HST.out,HK,hx,hr];rfl);rw[hr]at CK;clear HK hl hx hr
        try go_wp2_with fail
        refine (CL.out _).mono ?_;rintro e w' ⟨rfl,rfl⟩;go_wp2_with fail;refine (CK.out _).mono ?_;rintro e wz ⟨⟨v,rfl,_⟩,bz⟩;have B:=b3.trans (bz.mono b3.size);clear bz;go_wp2_with fail;go_ret2;exact ⟨by rw[HF.out];rfl,B⟩
       |some l=>
        have HF:Hid (dW (fQ s.data.toList)=L #[I S,Y true]):=by
         show _=_;rw[HSS.out];exact pI HAS.out (by rw[<-HST.out,HK,hx,hr];rfl)
        rw[hr]at CK;clear HK hl hx hr
        try go_wp2_with fail
        refine (CL.out _).mono ?_;rintro e w' ⟨rfl,rfl⟩;go_wp2_with fail;refine (CK.out _).mono ?_;rintro e wz ⟨⟨v,rfl,_⟩,bz⟩;have B:=b3.trans (bz.mono b3.size);clear bz;go_wp2_with fail;go_ret2;exact ⟨by rw[HF.out];rfl,B⟩
    exact absurd HY1.out hn
   have HF:Hid (dW (fQ s.data.toList)=L #[I ⟨#[]⟩,Y false]):=by show _=_;rw[OM ha (fun h=>hy2 h.2)];rfl
   have e1:oK (cS ⟨(aE s.data.toList).toArray⟩).2=L #[I ⟨#[]⟩,Y false]:=if_neg hy2;rw[e1]at HEN;have HY1:Hid ((cS ⟨(aE s.data.toList).toArray⟩).1=(⟨(aE s.data.toList).toArray⟩:ByteArray).size):=hy1;clear ha hy1 hy2 hz HAO hfl hls e1;go_enter func137,ntmps137;go_wp2_with fail;refine CLo.out.mono ?_;rintro e wa ⟨rfl,ba⟩;go_wp2_with fail;refine (CA.out _).mono ?_;rintro e w' ⟨rfl,rfl⟩;go_wp2_with fail;refine (CR.out _).mono ?_;rintro e wb (⟨_,vb,rfl,ob,bb⟩|⟨hn,_⟩)
   .go_wp2_with fail
    refine (HEN.out _ _ _ ob).mono ?_;rintro e wc ⟨rfl,bc⟩;have b2:=ba.trans (bb.mono ba.size);have b3:=b2.trans (bc.mono b2.size);clear ba bb ob b2 bc;go_wp2_with fail;go_ret2;exact ⟨by rw[HF.out];rfl,b3⟩
   exact absurd HY1.out hn
  have HF:Hid (dW (fQ s.data.toList)=L #[I ⟨#[]⟩,Y false]):=by show _=_;rw[OM ha (fun h=>hy1 (h.1.trans hz.symm))];rfl
  have HEN:Hid (∀(W:World) (v:Value) (B:Nat),W.ownsRow B 3 1 v 0 (aO [])->CB 189 #[v] W (L #[I ⟨(b8 (bJ [])).toArray⟩,Y true])):=
   fun W v B h=>yW [] v B W (fun r hr=>by simp at hr) de h
  have HY1:Hid (¬(cS ⟨(aE s.data.toList).toArray⟩).1=(⟨(aE s.data.toList).toArray⟩:ByteArray).size):=hy1;clear ha hy1 hz hls;go_enter func137,ntmps137;go_wp2_with fail;refine CLo.out.mono ?_;rintro e wa ⟨rfl,ba⟩;go_wp2_with fail;refine (CA.out _).mono ?_;rintro e w' ⟨rfl,rfl⟩;go_wp2_with fail;refine (CR.out _).mono ?_;rintro e wb (⟨hn,_⟩|⟨_,vb,rfl,ob,bb⟩)
  .exact absurd hn HY1.out
  go_wp2_with fail;refine (HEN.out _ _ _ ob).mono ?_;rintro e wc ⟨rfl,bc⟩;have b2:=ba.trans (bb.mono ba.size);have b3:=b2.trans (bc.mono b2.size);clear ba bb ob b2 bc;go_wp2_with fail;go_ret2;exact ⟨by rw[HF.out];rfl,b3⟩
theorem zA(s:ByteArray):dW (fQ s.data.toList)=match oQ s with
  |some a=> L #[I a,Y true]
  |none=> L #[I ⟨#[]⟩,Y false]:=by
 unfold oQ dW
 cases fQ s.data.toList<;>rfl
theorem uH{fs ls:List ByteArray}{k:Nat}(hk:k<fs.length)(h:fI (fs.take k)=some ls):fI (fs.take (k+1))=match oQ (fs.getD k zc)with
  |some a=>some (ls++[a])
  |none=>none:=by
 rw[vS fs k hk,sT,h];simp only[fI]
 cases oQ (fs.getD k zc)<;>rfl
theorem nF{fs:List ByteArray}{k:Nat}(h:fI (fs.take k)=none):fI fs=none:=by
 rw[<-zr k fs,sT,h]
theorem wM{fs ls:List ByteArray}{k:Nat}(h:fI (fs.take k)=some ls)(h2: ¬(jn 46 ls).length<=253):kJ fs=none:=by
 have e:=sT (fs.take k) (fs.drop k);rw[zr,h]at e
 cases hd:fI (fs.drop k)with
 |none=>rw[hd]at e;exact qH e
 |some ms=>
  rw[hd]at e;refine FV e fun hh=>h2 (Nat.le_trans (jn_le 46 ls ms) hh)
theorem gJ{r:Option (List UInt8)}(h:r=none):dW r=L #[I ⟨#[]⟩,Y false]:=by rw[h];rfl
theorem nG{r:Option (List UInt8)}{t:List UInt8}(h:r=some t):dW r=L #[I ⟨t.toArray⟩,Y true]:=by rw[h];rfl
theorem qS(z:ByteArray):z.data.toList.length=z.size:=by simp
theorem qT(z:ByteArray):(⟨z.data.toList.toArray⟩:ByteArray)=z:=by
 apply zt;apply zo.1;rfl
theorem II(s:ByteArray)(w:World)(hs:s.size<=1048576):Calls prog 86 #[I s] w fun e w'=>e=J (dW (cX s))/\Below w.heap.size w w':=by
 have CF:Hid (Calls prog 93 #[I s,.int .u8 46] w fun e w'=> ∃v,e=J v/\w'.ownsRow w.heap.size 9 1 v (aB s 46).length (aZ (aB s 46))/\Below w.heap.size w w'):=nU s 46 w hs;have hpos:0<(aB s 46).length:=by simp[aB]
 have hlen:(aB s 46).length<=1048577:=by
  have:=(eF s 46 s.size).2
  simp[aB];omega
 have HSZ0:Hid (∀x∈aB s 46,x.size<=1048576):=iF s hs;have HNM0:Hid (cX s=kJ (eJ (aB s 46))):=rfl;generalize aB s 46=f0 at CF hpos hlen HSZ0 HNM0
 by_cases hd:1<f0.length/\(f0.getD (f0.length-1) zc).size=0
 .have HNM:Hid (cX s=kJ (f0.take (f0.length-1))):=by
   have h:=HNM0.out;unfold eJ at h;rw[if_pos hd]at h;exact h
  have HSZ:Hid (∀x∈f0.take (f0.length-1),x.size<=1048576):=fun x hx=>HSZ0.out x (List.mem_of_mem_take hx)
  have hl1:1<(f0.length:Int):=om;have hem:=aS hd.2;clear hd;go_enter func86,ntmps86;go_wp2_with fail;refine CF.out.mono ?_;rintro e wa ⟨va,rfl,oa,ba⟩
  rcases aY oa with ⟨h,_⟩|⟨_,g,cap,rfl⟩
  .omega
  have hc:=cO oa (f0.length-1) om;have hcap:f0.length<=cap:=by
   rcases oa.2 with ⟨h,_⟩|⟨_,_,_,h,_,_,h3,_⟩
   .cases h
   cases h;exact h3
  have OV:=sK oa (f0.length-1) om;rw[lW]at OV;have hi:((f0.length:Int)-1)=((f0.length-1:Nat):Int):=om;generalize f0.getD (f0.length-1) zc=q at hc hem;clear oa;go_wp2_with fail;obtain ⟨m,hm⟩: ∃m,f0.length-1=m:=⟨_,rfl⟩;rw[hm]at OV HNM HSZ⊢;obtain ⟨fs,hfs⟩: ∃fs,f0.take m=fs:=⟨_,rfl⟩;rw[hfs]at OV HNM HSZ;have hml:m=fs.length:=by rw[<-hfs,zj];omega
  have hlen2:fs.length<=1048577:=om;clear hfs hm hc hi;subst hml
  go_loopw[5,6] (fun o i wr=> ∃(k:Nat) (ls:List ByteArray) (z:ByteArray),k<=fs.length/\i=.int .i64 k/\fI (fs.take k)=some ls/\o=I z/\z.data.toList=jn 46 ls/\z.size<=253/\wr.ownsRow w.heap.size 9 1 (.slice (some ⟨g,0,none⟩) fs.length cap) fs.length (aZ fs)/\Below w.heap.size w wr)
   (fun _ i _=>fs.length-(intOf i).toNat)
  case atStart=>exact ⟨0,[],⟨#[]⟩,zm _,rfl,rfl,rfl,rfl,de,OV,ba⟩
  obtain ⟨k,ls,z,hk,rfl,hls,rfl,hz,hz2,ow,hbel⟩:=hrel;have HLS:Hid (fI (fs.take k)=some ls):=hls;have HZ:Hid (z.data.toList=jn 46 ls):=hz;have HLN:Hid (ls.length=k):=by show _=_;rw[oC hls,zj];omega
  have hz3:(z.size:Int)<=253:=om;clear hls hz
  by_cases hlt:k<fs.length
  .have hc:=cO ow k hlt
   have hTA:=uH hlt HLS.out;have hsz:=hbel.size;have CT:Hid (∀W,CB 137 #[I (fs.getD k zc)] W (dW (fQ (fs.getD k zc).data.toList))):=fun W=>tD _ W (HSZ.out _ (by rw[ze,zf hlt];exact zh hlt))
   rw[zA]at CT;generalize fs.getD k zc=y at hc hTA CT;have hkl:(k:Int)<fs.length:=om
   cases ha:oQ y with
   |none=>
    rw[ha]at CT hTA;have HF:Hid (dW (cX s)=L #[I ⟨#[]⟩,Y false]):=gJ (HNM.out.trans (qH (nF hTA)));clear ha hTA;go_wp2_with fail;refine (CT.out _).mono ?_;rintro e wb ⟨rfl,bb⟩;have b2:=hbel.trans (bb.mono hsz);clear hbel bb ow;go_wp2_with fail;go_ret2;exact ⟨by rw[HF.out];rfl,b2⟩
   |some a=>
    rw[ha]at CT hTA;have hal:a.size<=63:=by
     have:=(dO (xV ha).1).2.1
     simpa using this
    have HTA:Hid (fI (fs.take (k+1))=some (ls++[a])):=hTA;clear ha hTA
    by_cases hk0:0<k
    .first
     |(exfalso;omega)
     |(
       have HJ:Hid (((z++⟨#[46]⟩)++a).data.toList=jn 46 (ls++[a])):=by
        show _=_;rw[xB 46 ls a (by intro h;have:=HLN.out;rw[h]at this;simp at this;omega),<-HZ.out];simp
       have hzs:((z++(⟨#[46]⟩:ByteArray))++a).size=z.size+1+a.size:=by
        rw[zd,zd];rfl
       by_cases hov:((z++(⟨#[46]⟩:ByteArray))++a).size<=253
       .have hov': ¬253<((((z++(⟨#[46]⟩:ByteArray))++a).size:Nat):Int):=om
        go_wp2_with fail;refine (CT.out _).mono ?_;rintro e wb ⟨rfl,bb⟩;have b2:=hbel.trans (bb.mono hsz);have o2:=aN ow bb;clear hbel bb ow;go_wp2_with fail;go_roundw
        case rel=>exact ⟨k+1,ls++[a],_,om,gn,HTA.out,rfl,HJ.out,hov,o2,b2⟩
        case measure=>exact j1
       have hov':253<((((z++(⟨#[46]⟩:ByteArray))++a).size:Nat):Int):=om;have HF:Hid (dW (cX s)=L #[I ⟨#[]⟩,Y false]):=gJ (HNM.out.trans (wM HTA.out (by
        rw[<-HJ.out];have e:=qS ((z++(⟨#[46]⟩:ByteArray))++a);omega)))
       go_wp2_with fail;refine (CT.out _).mono ?_;rintro e wb ⟨rfl,bb⟩;have b2:=hbel.trans (bb.mono hsz);clear hbel bb ow;go_wp2_with fail;go_ret2;exact ⟨by rw[HF.out];rfl,b2⟩)
    have hk00:k=0:=om;subst hk00;have hl0:ls=[]:=zg HLN.out;subst hl0;have hz0:z=⟨#[]⟩:=by
     rw[<-qT z,HZ.out];rfl
    subst hz0;have HJ:Hid (((⟨#[]⟩:ByteArray)++a).data.toList=jn 46 ([]++[a])):=by
     show _=_;rw[EW];simp
    have hzs:((⟨#[]⟩:ByteArray)++a).size=a.size:=by
     rw[zd];exact zq _
    have hov': ¬253<((((⟨#[]⟩:ByteArray)++a).size:Nat):Int):=om;go_wp2_with fail;refine (CT.out _).mono ?_;rintro e wb ⟨rfl,bb⟩;have b2:=hbel.trans (bb.mono hsz);have o2:=aN ow bb;clear hbel bb ow;go_wp2_with fail;go_roundw
    case rel=>exact ⟨0+1,[]++[a],_,om,gn,HTA.out,rfl,HJ.out,om,o2,b2⟩
    case measure=>exact j1
  have hks:k=fs.length:=om;have HF:Hid (dW (cX s)=L #[I z,Y true]):=by
   have h:=HLS.out;rw[hks,zi]at h;have h2:(jn 46 ls).length<=253:=by
    rw[<-HZ.out];have e:=qS z;omega
   have h3:=nG (HNM.out.trans (lF h h2));rw[<-HZ.out,qT]at h3;exact h3
  subst hks;go_wp2_with fail;go_ret2;exact ⟨by rw[HF.out];rfl,hbel⟩
 have HNM:Hid (cX s=kJ f0):=by
  have h:=HNM0.out;unfold eJ at h;rw[if_neg hd]at h;exact h
 by_cases hl1:1<f0.length
 .have hl1':1<(f0.length:Int):=om
  have hem:=aW (u:=f0.getD (f0.length-1) zc) (by apply Nat.pos_of_ne_zero;intro h;exact hd ⟨hl1,h⟩);clear hd;go_enter func86,ntmps86;go_wp2_with fail;refine CF.out.mono ?_;rintro e wa ⟨va,rfl,OV,ba⟩
  rcases aY OV with ⟨h,_⟩|⟨_,g,cap,rfl⟩
  .omega
  have hc:=cO OV (f0.length-1) om;have hi:((f0.length:Int)-1)=((f0.length-1:Nat):Int):=om;generalize f0.getD (f0.length-1) zc=q at hc hem;go_wp2_with fail;clear hc hi hem hl1 hl1';have HSZ:=HSZ0
  go_loopw[5,6] (fun o i wr=> ∃(k:Nat) (ls:List ByteArray) (z:ByteArray),k<=f0.length/\i=.int .i64 k/\fI (f0.take k)=some ls/\o=I z/\z.data.toList=jn 46 ls/\z.size<=253/\wr.ownsRow w.heap.size 9 1 (.slice (some ⟨g,0,none⟩) f0.length cap) f0.length (aZ f0)/\Below w.heap.size w wr)
   (fun _ i _=>f0.length-(intOf i).toNat)
  case atStart=>exact ⟨0,[],⟨#[]⟩,zm _,rfl,rfl,rfl,rfl,de,OV,ba⟩
  obtain ⟨k,ls,z,hk,rfl,hls,rfl,hz,hz2,ow,hbel⟩:=hrel;have HLS:Hid (fI (f0.take k)=some ls):=hls;have HZ:Hid (z.data.toList=jn 46 ls):=hz;have HLN:Hid (ls.length=k):=by show _=_;rw[oC hls,zj];omega
  have hz3:(z.size:Int)<=253:=om;clear hls hz
  by_cases hlt:k<f0.length
  .have hc:=cO ow k hlt
   have hTA:=uH hlt HLS.out;have hsz:=hbel.size;have CT:Hid (∀W,CB 137 #[I (f0.getD k zc)] W (dW (fQ (f0.getD k zc).data.toList))):=fun W=>tD _ W (HSZ.out _ (by rw[ze,zf hlt];exact zh hlt))
   rw[zA]at CT;generalize f0.getD k zc=y at hc hTA CT;have hkl:(k:Int)<f0.length:=om
   cases ha:oQ y with
   |none=>
    rw[ha]at CT hTA;have HF:Hid (dW (cX s)=L #[I ⟨#[]⟩,Y false]):=gJ (HNM.out.trans (qH (nF hTA)));clear ha hTA;go_wp2_with fail;refine (CT.out _).mono ?_;rintro e wb ⟨rfl,bb⟩;have b2:=hbel.trans (bb.mono hsz);clear hbel bb ow;go_wp2_with fail;go_ret2;exact ⟨by rw[HF.out];rfl,b2⟩
   |some a=>
    rw[ha]at CT hTA;have hal:a.size<=63:=by
     have:=(dO (xV ha).1).2.1
     simpa using this
    have HTA:Hid (fI (f0.take (k+1))=some (ls++[a])):=hTA;clear ha hTA
    by_cases hk0:0<k
    .first
     |(exfalso;omega)
     |(
       have HJ:Hid (((z++⟨#[46]⟩)++a).data.toList=jn 46 (ls++[a])):=by
        show _=_;rw[xB 46 ls a (by intro h;have:=HLN.out;rw[h]at this;simp at this;omega),<-HZ.out];simp
       have hzs:((z++(⟨#[46]⟩:ByteArray))++a).size=z.size+1+a.size:=by
        rw[zd,zd];rfl
       by_cases hov:((z++(⟨#[46]⟩:ByteArray))++a).size<=253
       .have hov': ¬253<((((z++(⟨#[46]⟩:ByteArray))++a).size:Nat):Int):=om
        go_wp2_with fail;refine (CT.out _).mono ?_;rintro e wb ⟨rfl,bb⟩;have b2:=hbel.trans (bb.mono hsz);have o2:=aN ow bb;clear hbel bb ow;go_wp2_with fail;go_roundw
        case rel=>exact ⟨k+1,ls++[a],_,om,gn,HTA.out,rfl,HJ.out,hov,o2,b2⟩
        case measure=>exact j1
       have hov':253<((((z++(⟨#[46]⟩:ByteArray))++a).size:Nat):Int):=om;have HF:Hid (dW (cX s)=L #[I ⟨#[]⟩,Y false]):=gJ (HNM.out.trans (wM HTA.out (by
        rw[<-HJ.out];have e:=qS ((z++(⟨#[46]⟩:ByteArray))++a);omega)))
       go_wp2_with fail;refine (CT.out _).mono ?_;rintro e wb ⟨rfl,bb⟩;have b2:=hbel.trans (bb.mono hsz);clear hbel bb ow;go_wp2_with fail;go_ret2;exact ⟨by rw[HF.out];rfl,b2⟩)
    have hk00:k=0:=om;subst hk00;have hl0:ls=[]:=zg HLN.out;subst hl0;have hz0:z=⟨#[]⟩:=by
     rw[<-qT z,HZ.out];rfl
    subst hz0;have HJ:Hid (((⟨#[]⟩:ByteArray)++a).data.toList=jn 46 ([]++[a])):=by
     show _=_;rw[EW];simp
    have hzs:((⟨#[]⟩:ByteArray)++a).size=a.size:=by
     rw[zd];exact zq _
    have hov': ¬253<((((⟨#[]⟩:ByteArray)++a).size:Nat):Int):=om;go_wp2_with fail;refine (CT.out _).mono ?_;rintro e wb ⟨rfl,bb⟩;have b2:=hbel.trans (bb.mono hsz);have o2:=aN ow bb;clear hbel bb ow;go_wp2_with fail;go_roundw
    case rel=>exact ⟨0+1,[]++[a],_,om,gn,HTA.out,rfl,HJ.out,om,o2,b2⟩
    case measure=>exact j1
  have hks:k=f0.length:=om;have HF:Hid (dW (cX s)=L #[I z,Y true]):=by
   have h:=HLS.out;rw[hks,zi]at h;have h2:(jn 46 ls).length<=253:=by
    rw[<-HZ.out];have e:=qS z;omega
   have h3:=nG (HNM.out.trans (lF h h2));rw[<-HZ.out,qT]at h3;exact h3
  subst hks;go_wp2_with fail;go_ret2;exact ⟨by rw[HF.out];rfl,hbel⟩
 have hl1': ¬1<(f0.length:Int):=om;clear hd;go_enter func86,ntmps86;go_wp2_with fail;refine CF.out.mono ?_;rintro e wa ⟨va,rfl,OV,ba⟩
 rcases aY OV with ⟨h,_⟩|⟨_,g,cap,rfl⟩
 .omega
 go_wp2_with fail;clear hl1 hl1';have HSZ:=HSZ0
 go_loopw[5,6] (fun o i wr=> ∃(k:Nat) (ls:List ByteArray) (z:ByteArray),k<=f0.length/\i=.int .i64 k/\fI (f0.take k)=some ls/\o=I z/\z.data.toList=jn 46 ls/\z.size<=253/\wr.ownsRow w.heap.size 9 1 (.slice (some ⟨g,0,none⟩) f0.length cap) f0.length (aZ f0)/\Below w.heap.size w wr)
  (fun _ i _=>f0.length-(intOf i).toNat)
 case atStart=>exact ⟨0,[],⟨#[]⟩,zm _,rfl,rfl,rfl,rfl,de,OV,ba⟩
 obtain ⟨k,ls,z,hk,rfl,hls,rfl,hz,hz2,ow,hbel⟩:=hrel;have HLS:Hid (fI (f0.take k)=some ls):=hls;have HZ:Hid (z.data.toList=jn 46 ls):=hz;have HLN:Hid (ls.length=k):=by show _=_;rw[oC hls,zj];omega
 have hz3:(z.size:Int)<=253:=om;clear hls hz
 by_cases hlt:k<f0.length
 .have hc:=cO ow k hlt
  have hTA:=uH hlt HLS.out;have hsz:=hbel.size;have CT:Hid (∀W,CB 137 #[I (f0.getD k zc)] W (dW (fQ (f0.getD k zc).data.toList))):=fun W=>tD _ W (HSZ.out _ (by rw[ze,zf hlt];exact zh hlt))
  rw[zA]at CT;generalize f0.getD k zc=y at hc hTA CT;have hkl:(k:Int)<f0.length:=om
  cases ha:oQ y with
  |none=>
   rw[ha]at CT hTA;have HF:Hid (dW (cX s)=L #[I ⟨#[]⟩,Y false]):=gJ (HNM.out.trans (qH (nF hTA)));clear ha hTA;go_wp2_with fail;refine (CT.out _).mono ?_;rintro e wb ⟨rfl,bb⟩;have b2:=hbel.trans (bb.mono hsz);clear hbel bb ow;go_wp2_with fail;go_ret2;exact ⟨by rw[HF.out];rfl,b2⟩
  |some a=>
   rw[ha]at CT hTA;have hal:a.size<=63:=by
    have:=(dO (xV ha).1).2.1
    simpa using this
   have HTA:Hid (fI (f0.take (k+1))=some (ls++[a])):=hTA;clear ha hTA
   by_cases hk0:0<k
   .first
    |(exfalso;omega)
    |(
      have HJ:Hid (((z++⟨#[46]⟩)++a).data.toList=jn 46 (ls++[a])):=by
       show _=_;rw[xB 46 ls a (by intro h;have:=HLN.out;rw[h]at this;simp at this;omega),<-HZ.out];simp
      have hzs:((z++(⟨#[46]⟩:ByteArray))++a).size=z.size+1+a.size:=by
       rw[zd,zd];rfl
      by_cases hov:((z++(⟨#[46]⟩:ByteArray))++a).size<=253
      .have hov': ¬253<((((z++(⟨#[46]⟩:ByteArray))++a).size:Nat):Int):=om
       go_wp2_with fail;refine (CT.out _).mono ?_;rintro e wb ⟨rfl,bb⟩;have b2:=hbel.trans (bb.mono hsz);have o2:=aN ow bb;clear hbel bb ow;go_wp2_with fail;go_roundw
       case rel=>exact ⟨k+1,ls++[a],_,om,gn,HTA.out,rfl,HJ.out,hov,o2,b2⟩
       case measure=>exact j1
      have hov':253<((((z++(⟨#[46]⟩:ByteArray))++a).size:Nat):Int):=om;have HF:Hid (dW (cX s)=L #[I ⟨#[]⟩,Y false]):=gJ (HNM.out.trans (wM HTA.out (by
       rw[<-HJ.out];have e:=qS ((z++(⟨#[46]⟩:ByteArray))++a);omega)))
      go_wp2_with fail;refine (CT.out _).mono ?_;rintro e wb ⟨rfl,bb⟩;have b2:=hbel.trans (bb.mono hsz);clear hbel bb ow;go_wp2_with fail;go_ret2;exact ⟨by rw[HF.out];rfl,b2⟩)
   have hk00:k=0:=om;subst hk00;have hl0:ls=[]:=zg HLN.out;subst hl0;have hz0:z=⟨#[]⟩:=by
    rw[<-qT z,HZ.out];rfl
   subst hz0;have HJ:Hid (((⟨#[]⟩:ByteArray)++a).data.toList=jn 46 ([]++[a])):=by
    show _=_;rw[EW];simp
   have hzs:((⟨#[]⟩:ByteArray)++a).size=a.size:=by
    rw[zd];exact zq _
   have hov': ¬253<((((⟨#[]⟩:ByteArray)++a).size:Nat):Int):=om;go_wp2_with fail;refine (CT.out _).mono ?_;rintro e wb ⟨rfl,bb⟩;have b2:=hbel.trans (bb.mono hsz);have o2:=aN ow bb;clear hbel bb ow;go_wp2_with fail;go_roundw
   case rel=>exact ⟨0+1,[]++[a],_,om,gn,HTA.out,rfl,HJ.out,om,o2,b2⟩
   case measure=>exact j1
 have hks:k=f0.length:=om;have HF:Hid (dW (cX s)=L #[I z,Y true]):=by
  have h:=HLS.out;rw[hks,zi]at h;have h2:(jn 46 ls).length<=253:=by
   rw[<-HZ.out];have e:=qS z;omega
  have h3:=nG (HNM.out.trans (lF h h2));rw[<-HZ.out,qT]at h3;exact h3
 subst hks;go_wp2_with fail;go_ret2;exact ⟨by rw[HF.out];rfl,hbel⟩
def K2(w w':World)(r:Option (List ByteArray))(e:Ending):Prop:=match r with
 |some ls=> ∃v,e=J (L #[v,Y true])/\w'.ownsRow w.heap.size 9 1 v ls.length (aZ ls)
 |none=> ∃v,e=J (L #[v,Y false])
theorem Ed(fs:List ByteArray)(B:Nat)(v:Value)(w:World)(hpos:0<fs.length)(hlen:fs.length<=1048577)(hsz: ∀x∈fs,x.size<=1048576)(hT:Lib.Utf8Tabs 12 13 w)
  (hown:w.ownsRow B 9 1 v fs.length (aZ fs)):Calls prog 281 #[v,.func (.func 282) #[] #[]] w fun e w'=>K2 w w' (fI fs) e/\Below w.heap.size w w':=by
 obtain ⟨i0,hi,hz0,hz1,hz2⟩:=info_parts infoStr;have HSZ:Hid (∀x∈fs,x.size<=1048576):=hsz;have HT:Hid (Lib.Utf8Tabs 12 13 w):=hT;clear hsz hT
 rcases aY hown with ⟨h,_⟩|⟨_,g,cap,rfl⟩
 .omega
 have HOW:Hid (w.ownsRow B 9 1 (.slice (some ⟨g,0,none⟩) fs.length cap) fs.length (aZ fs)):=hown;clear hown;go_enter func281,ntmps281;go_wp2_with (at_make;refine wpList_make_own _ rfl _ _ 245 rfl w.heap.size 9 i0 (I ⟨#[]⟩) 1 underlying245 hi hz0 hz1 _ _ _ fs.length rfl rfl om (by rw[hz2];omega) (by unfold maxLen;omega) (zl _) ?_);intro wm hmo hgm;have Bm:Below w.heap.size w wm:=(zu _ _).grown hgm (zl _) (fun k hk=>by cases hk);have o9:wm.ownsRow w.heap.size 9 1 (.slice (some ⟨w.heap.size,0,none⟩) 0 fs.length) 0 []:=hmo;clear hmo hgm;go_wp2_with fail
 go_loopw[6,16] (fun m i wr=> ∃(k:Nat) (ls:List ByteArray),k<=fs.length/\i=.int .i64 k/\fI (fs.take k)=some ls/\wr.ownsRow w.heap.size 9 1 m ls.length (aZ ls)/\Below w.heap.size w wr)
  (fun _ i _=>fs.length-(intOf i).toNat)
 case atStart=>exact ⟨0,[],zm _,rfl,rfl,o9,Bm⟩
 obtain ⟨k,ls,hk,rfl,hls,ow,hbel⟩:=hrel;clear o9 Bm;have HLS:Hid (fI (fs.take k)=some ls):=hls;have hln:ls.length=k:=by rw[oC hls,zj];omega
 clear hls;have hsz:=hbel.size
 by_cases hlt:k<fs.length
 .have hc:=cO (aN HOW.out hbel) k hlt
  have hTA:=uH hlt HLS.out;have CT:Hid (∀W,Lib.Utf8Tabs 12 13 W->CB 282 #[I (fs.getD k zc)] W (dW (fQ (fs.getD k zc).data.toList))):=fun W hT=>VK _ W (HSZ.out _ (by rw[ze,zf hlt];exact zh hlt)) hT
  have HTW:Hid (Lib.Utf8Tabs 12 13 wr):=cV HT.out hbel;rw[zA]at CT;generalize fs.getD k zc=y at hc hTA CT;have hkl:(k:Int)<fs.length:=om
  cases ha:oQ y with
  |none=>
   rw[ha]at CT hTA;have HF:Hid (fI fs=none):=nF hTA;clear ha hTA;go_wp2_with fail;refine (CT.out _ HTW.out).mono ?_;rintro e wb ⟨rfl,bb⟩;have b2:=hbel.trans (bb.mono hsz);clear hbel bb ow;go_wp2_with fail;go_ret2;rw[HF.out];exact ⟨⟨_,rfl⟩,b2⟩
  |some a=>
   rw[ha]at CT hTA;have HTA:Hid (fI (fs.take (k+1))=some (ls++[a])):=hTA;clear ha hTA;go_wp2_with fail;refine (CT.out _ HTW.out).mono ?_;rintro e wb ⟨rfl,bb⟩;have b2:=hbel.trans (bb.mono hsz);have o2:=aN ow bb;have z2:=b2.size;clear hbel bb ow HTW CT;go_wp2_with (at_builtin;refine aC _ rfl _ _ 245 rfl w.heap.size 9 (I ⟨#[]⟩) 16 underlying245 infoStr rfl _ _ _ rfl o2 #[I a] 1 rfl rfl (lJ _) om (by unfold maxLen;omega) z2 ?_);intro v' w1 ow' hb1;have R:w1.ownsRow w.heap.size 9 1 v' (ls++[a]).length (aZ (ls++[a])):=by
    rw[lS,zk,hln];exact ow'
   have B1:Below w.heap.size w w1:=b2.trans hb1;clear ow' hb1 o2 b2;go_wp2_with fail;go_roundw
   case rel=>exact ⟨k+1,ls++[a],om,gn,HTA.out,R,B1⟩
   case measure=>exact j1
 have hks:k=fs.length:=om;have HF:Hid (fI fs=some ls):=by
  have h:=HLS.out;rw[hks,zi]at h;exact h
 go_wp2_with fail;go_ret2;rw[HF.out];exact ⟨⟨_,rfl,ow⟩,hbel⟩
theorem IJ(s:ByteArray)(w:World)(hs:s.size<=1048576)(hT:Lib.Utf8Tabs 12 13 w):Calls prog 266 #[I s] w fun e w'=>e=J (dW (cX s))/\Below w.heap.size w w':=by
 have CF:Hid (Calls prog 135 #[I s,.int .u8 46] w fun e w'=> ∃v,e=J v/\w'.ownsRow w.heap.size 9 1 v (aB s 46).length (aZ (aB s 46))/\Below w.heap.size w w'):=vR s 46 w hs;have hpos:0<(aB s 46).length:=by simp[aB]
 have hlen:(aB s 46).length<=1048577:=by
  have:=(eF s 46 s.size).2
  simp[aB];omega
 have HSZ:Hid (∀x∈eJ (aB s 46),x.size<=1048576):=BL (iF s hs);have HNM:Hid (cX s=kJ (eJ (aB s 46))):=rfl;have hp2:=zW hpos;have hl2:(eJ (aB s 46)).length<=1048577:=Nat.le_trans (RU _) hlen;have HT:Hid (Lib.Utf8Tabs 12 13 w):=hT;have CW:Hid (∀(W:World) (v:Value) (B:Nat),W.ownsRow B 9 1 v (aB s 46).length (aZ (aB s 46))->Calls prog 280 #[v] W fun e w'=> ∃v',e=J v'/\W.ownsRow B 9 1 v' (eJ (aB s 46)).length (aZ (eJ (aB s 46)))/\W=w'):=
  fun W v B h=>BM _ B v W hpos hlen h
 clear hT;generalize eJ (aB s 46)=fs at CW HSZ HNM hp2 hl2;go_enter func266,ntmps266;go_wp2_with fail;refine CF.out.mono ?_;rintro e wa ⟨va,rfl,oa,ba⟩;go_wp2_with fail;refine (CW.out _ _ _ oa).mono ?_;rintro e wb ⟨vb,rfl,ob,rfl⟩;clear oa CW CF hpos hlen;have za:=ba.size;have CE:Hid (Calls prog 281 #[vb,.func (.func 282) #[] #[]] wa fun e w'=>K2 wa w' (fI fs) e/\Below wa.heap.size wa w'):=Ed fs _ vb wa hp2 hl2 HSZ.out (cV HT.out ba) ob;clear ob
 cases hr:fI fs with
 |none=>
  have HF:Hid (dW (cX s)=L #[I ⟨#[]⟩,Y false]):=gJ (HNM.out.trans (qH hr));rw[hr]at CE;clear hr;go_wp2_with fail;refine CE.out.mono ?_;rintro e wc ⟨⟨vc,rfl⟩,bc⟩;have b2:=ba.trans (bc.mono za);clear ba bc;go_wp2_with fail;go_ret2;exact ⟨by rw[HF.out];rfl,b2⟩
 |some ls=>
  have hll:ls.length=fs.length:=oC hr;have hjb:=Bh 46 ls (LM (LL hr));rw[hr]at CE;have HR:Hid (fI fs=some ls):=hr;clear hr;go_wp2_with fail;refine CE.out.mono ?_;rintro e wc ⟨⟨vc,rfl,oc⟩,bc⟩;have b2:=ba.trans (bc.mono za);clear ba bc
  rcases aY oc with ⟨h,_⟩|⟨_,g,cap,rfl⟩
  .omega
  have CJ:=strings_Join g 0 cap ls ⟨#[46]⟩ wc (fun j x hj=>by
    have hjl:j<ls.length:=(List.getElem?_eq_some_iff.1 hj).1;rw[zq,cO oc j hjl,ze,hj];rfl) (oc.lt g rfl).2 om (mY oc) (by
    rw[show (⟨#[46]⟩:ByteArray).data.toList=[46] from rfl,F3];omega)
  rw[show (⟨#[46]⟩:ByteArray).data.toList=[46] from rfl,F3]at CJ;have CJ:Hid (CB 185 #[.slice (some ⟨g,0,none⟩) ls.length cap,I ⟨#[46]⟩] wc (I ⟨(jn 46 ls).toArray⟩)):=CJ;have hsz:(⟨(jn 46 ls).toArray⟩:ByteArray).size=(jn 46 ls).length:=by
   show (jn 46 ls).toArray.size=_;exact zn
  clear oc hll
  by_cases hov:(jn 46 ls).length<=253
  .have HF:Hid (dW (cX s)=L #[I ⟨(jn 46 ls).toArray⟩,Y true]):=nG (HNM.out.trans (lF HR.out hov))
   generalize (⟨(jn 46 ls).toArray⟩:ByteArray)=T at CJ hsz HF;have hov': ¬253<(T.size:Int):=om;clear hsz;go_wp2_with fail;refine CJ.out.mono ?_;rintro e wd ⟨rfl,bd⟩;have b3:=b2.trans (bd.mono b2.size);clear b2 bd;go_wp2_with fail;go_ret2;exact ⟨by rw[HF.out];rfl,b3⟩
  have HF:Hid (dW (cX s)=L #[I ⟨#[]⟩,Y false]):=gJ (HNM.out.trans (FV HR.out hov));generalize (⟨(jn 46 ls).toArray⟩:ByteArray)=T at CJ hsz;have hov':253<(T.size:Int):=om;clear hsz;go_wp2_with fail;refine CJ.out.mono ?_;rintro e wd ⟨rfl,bd⟩;have b3:=b2.trans (bd.mono b2.size);clear b2 bd;go_wp2_with fail;go_ret2;exact ⟨by rw[HF.out];rfl,b3⟩
