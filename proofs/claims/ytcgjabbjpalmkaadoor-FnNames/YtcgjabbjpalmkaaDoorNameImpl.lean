/- Contract of impl.NameOf. -/
import Derived.Test.YtcgjabbjpalmkaaDoorRows
import Derived.Test.YtcgjabbjpalmkaaDoorNameSpec
import Derived.Test.YtcgjabbjpalmkaaDoorAscImpl
namespace Go.Proofs.YtcgjabbjpalmkaaDoor
open Go.RowKit

theorem own_cap {w : World} {B : Nat} {e : TypeId} {g n cap : Nat} {xs : List Value} (h : w.ownsRow B e 1 (.slice (some ⟨g, 0, none⟩) n cap) n xs) : n ≤ cap := by
  rcases h.2 with ⟨h, _⟩ | ⟨_, _, _, h, _, _, h3, _⟩
  · cases h
  · cases h; exact h3

set_option maxHeartbeats 1000000 in
theorem implWithout (f0 : List ByteArray) (B : Nat) (v : Value) (w : World) (hpos : 0 < f0.length) (hlen : f0.length ≤ 1048577) (hown : w.ownsRow B 9 1 v f0.length (scells f0)) :
    Calls Tryd.prog 39 #[v] w fun e w' => ∃ v', e = .returned v' ∧ w.ownsRow B 9 1 v' (dropE f0).length (scells (dropE f0)) ∧ w = w' := by
  rcases own_shape hown with ⟨h, _⟩ | ⟨_, g, cap, rfl⟩
  · omega
  · have hcap := own_cap hown
    by_cases hd : 1 < f0.length ∧ (f0.getD (f0.length - 1) ByteArray.empty).size = 0
    · have OV := own_take hown (f0.length - 1) (by omega)
      rw [scells_take] at OV
      have HD : Hid (dropE f0 = f0.take (f0.length - 1)) := by show _ = _; unfold dropE; rw [if_pos hd]
      have HL : Hid ((f0.take (f0.length - 1)).length = f0.length - 1) := by show _ = _; rw [List.length_take]; omega
      have hl1 : 0 < (f0.length : Int) - 1 := by omega
      have hem := empty_yes hd.2
      have hc := scell_at hown (f0.length - 1) (by omega)
      have hi : ((f0.length : Int) - 1) = ((f0.length - 1 : Nat) : Int) := by omega
      generalize f0.getD (f0.length - 1) ByteArray.empty = q at hc hem
      have HOV : Hid (w.ownsRow B 9 1 (.slice (some ⟨g, 0, none⟩) (f0.length - 1) cap) (f0.length - 1) (scells (f0.take (f0.length - 1)))) := OV
      clear OV hown hd
      go_enter Tryd.func39, Tryd.ntmps39
      go_wp2_with fail
      go_ret
      rw [HD.out, HL.out]
      exact ⟨_, rfl, HOV.out, rfl⟩
    · have HD : Hid (dropE f0 = f0) := by show _ = _; unfold dropE; rw [if_neg hd]
      have HOV : Hid (w.ownsRow B 9 1 (.slice (some ⟨g, 0, none⟩) f0.length cap) f0.length (scells f0)) := hown
      by_cases hl1 : 1 < f0.length
      · have hl1' : 0 < (f0.length : Int) - 1 := by omega
        have hem := empty_no (u := f0.getD (f0.length - 1) ByteArray.empty) (by apply Nat.pos_of_ne_zero; intro h; exact hd ⟨hl1, h⟩)
        have hc := scell_at hown (f0.length - 1) (by omega)
        have hi : ((f0.length : Int) - 1) = ((f0.length - 1 : Nat) : Int) := by omega
        generalize f0.getD (f0.length - 1) ByteArray.empty = q at hc hem
        clear hown hd
        go_enter Tryd.func39, Tryd.ntmps39
        go_wp2_with fail
        go_ret
        rw [HD.out]
        exact ⟨_, rfl, HOV.out, rfl⟩
      · have hl1' : ¬ 0 < (f0.length : Int) - 1 := by omega
        clear hown hd
        go_enter Tryd.func39, Tryd.ntmps39
        go_wp2_with fail
        go_ret
        rw [HD.out]
        exact ⟨_, rfl, HOV.out, rfl⟩

/-- What 'each' of ToAscii answers. -/
def eachAns (w w' : World) (r : Option (List ByteArray)) (e : Ending) : Prop := match r with
  | some ls => ∃ v, e = .returned (.tuple #[v, .bool true]) ∧ w'.ownsRow w.heap.size 9 1 v ls.length (scells ls)
  | none => ∃ v, e = .returned (.tuple #[v, .bool false])

set_option maxHeartbeats 4000000 in
theorem implEach (fs : List ByteArray) (B : Nat) (v : Value) (w : World) (hpos : 0 < fs.length) (hlen : fs.length ≤ 1048577) (hsz : ∀ x ∈ fs, x.size ≤ 1048576) (hT : Lib.Utf8Tabs 0 1 w)
    (hown : w.ownsRow B 9 1 v fs.length (scells fs)) :
    Calls Tryd.prog 40 #[v, .func (.func 10) #[] #[]] w fun e w' => eachAns w w' (ascs fs) e ∧ Below w.heap.size w w' := by
  obtain ⟨i0, hi, hz0, hz1, hz2⟩ := info_parts Tryd.infoStr
  have HSZ : Hid (∀ x ∈ fs, x.size ≤ 1048576) := hsz
  have HT : Hid (Lib.Utf8Tabs 0 1 w) := hT
  clear hsz hT
  rcases own_shape hown with ⟨h, _⟩ | ⟨_, g, cap, rfl⟩
  · omega
  · have HOW : Hid (w.ownsRow B 9 1 (.slice (some ⟨g, 0, none⟩) fs.length cap) fs.length (scells fs)) := hown
    clear hown
    go_enter Tryd.func40, Tryd.ntmps40
    go_wp2_with (at_make; refine wpList_make_own _ rfl _ _ 42 rfl w.heap.size 9 i0 (.string ⟨#[]⟩) 1 Tryd.underlying42 hi hz0 hz1 _ _ _ fs.length rfl rfl (by omega) (by rw [hz2]; omega) (by unfold maxLen; omega) (Nat.le_refl _) ?_)
    intro wm hmo hgm
    have Bm : Below w.heap.size w wm := (Below.refl _ _).grown hgm (Nat.le_refl _) (fun k hk => by cases hk)
    have om : wm.ownsRow w.heap.size 9 1 (.slice (some ⟨w.heap.size, 0, none⟩) 0 fs.length) 0 [] := hmo
    clear hmo hgm
    go_wp2_with fail
    go_loopw [6, 16] (fun m i wr => ∃ (k : Nat) (ls : List ByteArray), k ≤ fs.length ∧ i = .int .i64 k ∧ ascs (fs.take k) = some ls ∧ wr.ownsRow w.heap.size 9 1 m ls.length (scells ls) ∧ Below w.heap.size w wr)
      (fun _ i _ => fs.length - (intOf i).toNat)
    case atStart => exact ⟨0, [], Nat.zero_le _, rfl, rfl, om, Bm⟩
    case round =>
      obtain ⟨k, ls, hk, rfl, hls, ow, hbel⟩ := hrel
      clear om Bm
      have HLS : Hid (ascs (fs.take k) = some ls) := hls
      have hln : ls.length = k := by rw [ascs_len hls, List.length_take]; omega
      clear hls
      have hsz := hbel.size
      by_cases hlt : k < fs.length
      · have hc := scell_at (own_below HOW.out hbel) k hlt
        have hTA := take_ascs hlt HLS.out
        have CT : Hid (∀ W, Lib.Utf8Tabs 0 1 W → Calls Tryd.prog 10 #[.string (fs.getD k ByteArray.empty)] W fun e w' => e = .returned (ansS (ascL (fs.getD k ByteArray.empty).data.toList)) ∧ Below W.heap.size W w') := fun W hT => implToAscii _ W (HSZ.out _ (by rw [List.getD_eq_getElem?_getD, List.getElem?_eq_getElem hlt]; exact List.getElem_mem hlt)) hT
        have HTW : Hid (Lib.Utf8Tabs 0 1 wr) := tabs_below HT.out hbel
        rw [ansS_asc] at CT
        generalize fs.getD k ByteArray.empty = y at hc hTA CT
        have hkl : (k : Int) < fs.length := by omega
        cases ha : ascB y with
        | none =>
          rw [ha] at CT hTA
          have HF : Hid (ascs fs = none) := ascs_none_of hTA
          clear ha hTA
          go_wp2_with fail
          refine (CT.out _ HTW.out).mono ?_
          rintro e wb ⟨rfl, bb⟩
          have b2 := hbel.trans (bb.mono hsz)
          clear hbel bb ow
          go_wp2_with fail
          go_ret2
          rw [HF.out]
          exact ⟨⟨_, rfl⟩, b2⟩
        | some a =>
          rw [ha] at CT hTA
          have HTA : Hid (ascs (fs.take (k + 1)) = some (ls ++ [a])) := hTA
          clear ha hTA
          go_wp2_with fail
          refine (CT.out _ HTW.out).mono ?_
          rintro e wb ⟨rfl, bb⟩
          have b2 := hbel.trans (bb.mono hsz)
          have o2 := own_below ow bb
          have z2 := b2.size
          clear hbel bb ow HTW CT
          go_wp2_with (at_builtin; refine wpList_append_new _ rfl _ _ 42 rfl w.heap.size 9 (.string ⟨#[]⟩) 16 Tryd.underlying42 Tryd.infoStr rfl _ _ _ rfl o2 #[.string a] 1 rfl rfl (str_one _) (by omega) (by unfold maxLen; omega) z2 ?_)
          intro v' w1 ow' hb1
          have R : w1.ownsRow w.heap.size 9 1 v' (ls ++ [a]).length (scells (ls ++ [a])) := by
            rw [scells_snoc, List.length_append, hln]
            exact ow'
          have B1 : Below w.heap.size w w1 := b2.trans hb1
          clear ow' hb1 o2 b2
          go_wp2_with fail
          go_roundw
          case rel => exact ⟨k + 1, ls ++ [a], by omega, by go_num, HTA.out, R, B1⟩
          case measure => simp [intOf]; omega
      · have hks : k = fs.length := by omega
        have HF : Hid (ascs fs = some ls) := by
          have h := HLS.out
          rw [hks, List.take_length] at h
          exact h
        go_wp2_with fail
        go_ret2
        rw [HF.out]
        exact ⟨⟨_, rfl, ow⟩, hbel⟩

set_option maxHeartbeats 2000000 in
theorem implNameOf (s : ByteArray) (w : World) (hs : s.size ≤ 1048576) (hT : Lib.Utf8Tabs 0 1 w) :
    Calls Tryd.prog 15 #[.string s] w fun e w' => e = .returned (ansS (nameL s)) ∧ Below w.heap.size w w' := by
  have CF : Hid (Calls Tryd.prog 38 #[.string s, .int .u8 46] w fun e w' => ∃ v, e = .returned v ∧ w'.ownsRow w.heap.size 9 1 v (fieldsL s 46).length (scells (fieldsL s 46)) ∧ Below w.heap.size w w') := implFields s 46 w hs
  have hpos : 0 < (fieldsL s 46).length := by simp [fieldsL]
  have hlen : (fieldsL s 46).length ≤ 1048577 := by
    have := (fieldsTo_le s 46 s.size).2
    simp [fieldsL]; omega
  have HSZ : Hid (∀ x ∈ dropE (fieldsL s 46), x.size ≤ 1048576) := dropE_sizes (fields_sizes46 s hs)
  have HNM : Hid (nameL s = namesL (dropE (fieldsL s 46))) := rfl
  have hp2 := dropE_pos hpos
  have hl2 : (dropE (fieldsL s 46)).length ≤ 1048577 := Nat.le_trans (dropE_le _) hlen
  have HT : Hid (Lib.Utf8Tabs 0 1 w) := hT
  have CW : Hid (∀ (W : World) (v : Value) (B : Nat), W.ownsRow B 9 1 v (fieldsL s 46).length (scells (fieldsL s 46)) → Calls Tryd.prog 39 #[v] W fun e w' => ∃ v', e = .returned v' ∧ W.ownsRow B 9 1 v' (dropE (fieldsL s 46)).length (scells (dropE (fieldsL s 46))) ∧ W = w') :=
    fun W v B h => implWithout _ B v W hpos hlen h
  clear hT
  generalize dropE (fieldsL s 46) = fs at CW HSZ HNM hp2 hl2
  go_enter Tryd.func15, Tryd.ntmps15
  go_wp2_with fail
  refine CF.out.mono ?_
  rintro e wa ⟨va, rfl, oa, ba⟩
  go_wp2_with fail
  refine (CW.out _ _ _ oa).mono ?_
  rintro e wb ⟨vb, rfl, ob, rfl⟩
  clear oa CW CF hpos hlen
  have za := ba.size
  have CE : Hid (Calls Tryd.prog 40 #[vb, .func (.func 10) #[] #[]] wa fun e w' => eachAns wa w' (ascs fs) e ∧ Below wa.heap.size wa w') := implEach fs _ vb wa hp2 hl2 HSZ.out (tabs_below HT.out ba) ob
  clear ob
  cases hr : ascs fs with
  | none =>
    have HF : Hid (ansS (nameL s) = .tuple #[.string ⟨#[]⟩, .bool false]) := name_ans_no (HNM.out.trans (namesL_no hr))
    rw [hr] at CE
    clear hr
    go_wp2_with fail
    refine CE.out.mono ?_
    rintro e wc ⟨⟨vc, rfl⟩, bc⟩
    have b2 := ba.trans (bc.mono za)
    clear ba bc
    go_wp2_with fail
    go_ret2
    exact ⟨by rw [HF.out]; rfl, b2⟩
  | some ls =>
    have hll : ls.length = fs.length := ascs_len hr
    have hjb := jn_bound 46 ls (labs_size (ascs_labs hr))
    rw [hr] at CE
    have HR : Hid (ascs fs = some ls) := hr
    clear hr
    go_wp2_with fail
    refine CE.out.mono ?_
    rintro e wc ⟨⟨vc, rfl, oc⟩, bc⟩
    have b2 := ba.trans (bc.mono za)
    clear ba bc
    rcases own_shape oc with ⟨h, _⟩ | ⟨_, g, cap, rfl⟩
    · omega
    · have CJ := Tryd.strings_Join g 0 cap ls ⟨#[46]⟩ wc (fun j x hj => by
          have hjl : j < ls.length := (List.getElem?_eq_some_iff.1 hj).1
          rw [Nat.zero_add, scell_at oc j hjl, List.getD_eq_getElem?_getD, hj]
          rfl) (oc.lt g rfl).2 (by omega) (own_cap oc) (by
          rw [show (⟨#[46]⟩ : ByteArray).data.toList = [46] from rfl, jn_join]; omega)
      rw [show (⟨#[46]⟩ : ByteArray).data.toList = [46] from rfl, jn_join] at CJ
      have CJ : Hid (Calls Tryd.prog 41 #[.slice (some ⟨g, 0, none⟩) ls.length cap, .string ⟨#[46]⟩] wc fun e w' => e = .returned (.string ⟨(jn 46 ls).toArray⟩) ∧ Below wc.heap.size wc w') := CJ
      have hsz : (⟨(jn 46 ls).toArray⟩ : ByteArray).size = (jn 46 ls).length := by
        show (jn 46 ls).toArray.size = _
        exact List.size_toArray
      clear oc hll
      by_cases hov : (jn 46 ls).length ≤ 253
      · have HF : Hid (ansS (nameL s) = .tuple #[.string ⟨(jn 46 ls).toArray⟩, .bool true]) := name_ans_yes (HNM.out.trans (namesL_yes HR.out hov))
        generalize (⟨(jn 46 ls).toArray⟩ : ByteArray) = T at CJ hsz HF
        have hov' : ¬ 253 < (T.size : Int) := by omega
        clear hsz
        go_wp2_with fail
        refine CJ.out.mono ?_
        rintro e wd ⟨rfl, bd⟩
        have b3 := b2.trans (bd.mono b2.size)
        clear b2 bd
        go_wp2_with fail
        go_ret2
        exact ⟨by rw [HF.out]; rfl, b3⟩
      · have HF : Hid (ansS (nameL s) = .tuple #[.string ⟨#[]⟩, .bool false]) := name_ans_no (HNM.out.trans (namesL_big HR.out hov))
        generalize (⟨(jn 46 ls).toArray⟩ : ByteArray) = T at CJ hsz
        have hov' : 253 < (T.size : Int) := by omega
        clear hsz
        go_wp2_with fail
        refine CJ.out.mono ?_
        rintro e wd ⟨rfl, bd⟩
        have b3 := b2.trans (bd.mono b2.size)
        clear b2 bd
        go_wp2_with fail
        go_ret2
        exact ⟨by rw [HF.out]; rfl, b3⟩
end Go.Proofs.YtcgjabbjpalmkaaDoor
