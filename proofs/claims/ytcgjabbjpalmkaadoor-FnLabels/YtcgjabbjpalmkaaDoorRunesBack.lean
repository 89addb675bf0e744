/- Plain laws: runes come back of their text, and a text of its runes. -/
import Derived.Test.YtcgjabbjpalmkaaDoorPutRunesWalk
import Derived.Test.YtcgjabbjpalmkaaDoorAsciiWalk
import Derived.Test.YtcgjabbjpalmkaaDoorRunesPlain
namespace Go.Proofs.YtcgjabbjpalmkaaDoor

theorem byte_nat (z : Int) (_h0 : 0 ≤ z) (h1 : z < 256) : (z.toNat.toUInt8).toNat = z.toNat := by
  simp; omega

theorem decode_encode (r : Int) (h : runeOk r) (rest : List UInt8) : Lib.decodeL (Lib.encodeRune r ++ rest) = (r.toNat, (Lib.encodeRune r).length) := by
  obtain ⟨h0, h1, h2⟩ := h
  by_cases a : r < 128
  · have e : Lib.encodeRune r = [r.toNat.toUInt8] := by unfold Lib.encodeRune; rw [Lib.encodeRuneZ_one h0 (by omega)]; rfl
    rw [e, Lib.decodeL_N]
    simp only [List.cons_append, List.nil_append, List.getD_cons_zero, List.length_singleton]
    rw [byte_nat r h0 (by omega)]
    unfold Lib.decodeN
    rw [if_pos (by omega)]
  · by_cases b : r < 2048
    · have e : Lib.encodeRune r = [(192 + r / 64).toNat.toUInt8, (128 + r % 64).toNat.toUInt8] := by unfold Lib.encodeRune; rw [Lib.encodeRuneZ_two (by omega) (by omega)]; rfl
      rw [e, Lib.decodeL_N]
      simp only [List.cons_append, List.nil_append, List.getD_cons_zero, List.getD_cons_succ, List.length_cons, List.length_nil]
      rw [byte_nat _ (by omega) (by omega), byte_nat _ (by omega) (by omega)]
      unfold Lib.decodeN
      rw [if_neg (by omega), if_pos (by omega), if_pos (by omega)]
      congr 1
      omega
    · by_cases c : r < 65536
      · have e : Lib.encodeRune r = [(224 + r / 4096).toNat.toUInt8, (128 + r / 64 % 64).toNat.toUInt8, (128 + r % 64).toNat.toUInt8] := by unfold Lib.encodeRune; rw [Lib.encodeRuneZ_three (by omega)]; rfl
        rw [e, Lib.decodeL_N]
        simp only [List.cons_append, List.nil_append, List.getD_cons_zero, List.getD_cons_succ, List.length_cons, List.length_nil]
        rw [byte_nat _ (by omega) (by omega), byte_nat _ (by omega) (by omega), byte_nat _ (by omega) (by omega)]
        unfold Lib.decodeN
        rw [if_neg (by omega), if_neg (by omega), if_pos (by omega), if_pos (by omega)]
        congr 1
        omega
      · have e : Lib.encodeRune r = [(240 + r / 262144).toNat.toUInt8, (128 + r / 4096 % 64).toNat.toUInt8, (128 + r / 64 % 64).toNat.toUInt8, (128 + r % 64).toNat.toUInt8] := by unfold Lib.encodeRune; rw [Lib.encodeRuneZ_four (by omega) (by omega)]; rfl
        rw [e, Lib.decodeL_N]
        simp only [List.cons_append, List.nil_append, List.getD_cons_zero, List.getD_cons_succ, List.length_cons, List.length_nil]
        rw [byte_nat _ (by omega) (by omega), byte_nat _ (by omega) (by omega), byte_nat _ (by omega) (by omega), byte_nat _ (by omega) (by omega)]
        unfold Lib.decodeN
        rw [if_neg (by omega), if_neg (by omega), if_neg (by omega), if_pos (by omega), if_pos (by omega)]
        congr 1
        omega

theorem decode_runeOk (s : ByteArray) (p : Nat) (h : okAt s p) : runeOk ((Utf8.decode s p).1 : Int) := by
  unfold okAt at h
  rw [Lib.decode_at] at h ⊢
  generalize (s.get! p).toNat = b0 at *
  generalize (s.get! (p + 1)).toNat = b1 at *
  generalize (s.get! (p + 2)).toNat = b2 at *
  generalize (s.get! (p + 3)).toNat = b3 at *
  unfold runeOk
  rcases Lib.decodeN_shape (s.size - p) b0 b1 b2 b3 with ⟨c, e⟩ | ⟨c1, c2, c3, cv, e⟩ | ⟨c1, c2, c3, c4, cv, cs, e⟩ | ⟨c1, c2, c3, c4, c5, cv, cs, e⟩ | e
  · rw [e]; simp only; omega
  · rw [e]; simp only; omega
  · rw [e]; simp only; omega
  · rw [e]; simp only; omega
  · rw [e] at h; simp at h

theorem stR_back (s : ByteArray) (k : Nat) : allOk (stR s k).2 ∧ encAll (stR s k).2 = s.data.toList.take (stR s k).1 := by
  induction k with
  | zero => exact ⟨fun r hr => by simp [stR] at hr, by simp [stR, encAll]⟩
  | succ k ih =>
    obtain ⟨i1, i2⟩ := ih
    rw [stR]
    split
    · rename_i g
      refine ⟨fun r hr => ?_, ?_⟩
      · rcases List.mem_append.1 hr with hr | hr
        · exact i1 r hr
        · rw [List.mem_singleton.1 hr]; exact decode_runeOk s _ g.2
      · have hne : s.data.toList.drop (stR s k).1 ≠ [] := by
          intro e
          have := congrArg List.length e
          simp at this
          omega
        have hd := Lib.encode_decode (s.data.toList.drop (stR s k).1) hne (by rw [Lib.decodeL_drop]; exact g.2)
        rw [Lib.decodeL_drop] at hd
        simp only
        rw [encAll_snoc, i2, hd, List.take_add]
    · exact ⟨i1, i2⟩

theorem fin_back (s : ByteArray) (h : (finR s).1 = s.size) : allOk (finR s).2 ∧ encAll (finR s).2 = s.data.toList := by
  obtain ⟨a, b⟩ := stR_back s s.size
  unfold finR at h ⊢
  refine ⟨a, ?_⟩
  rw [b, h, take_all s _ (Nat.le_refl _)]

theorem encAll_append (l m : List Int) : encAll (l ++ m) = encAll l ++ encAll m := by simp [encAll]

theorem stR_put (zl : List Int) (h : allOk zl) : ∀ k, k ≤ zl.length → stR ⟨(encAll zl).toArray⟩ k = ((encAll (zl.take k)).length, zl.take k)
  | 0, _ => by simp [stR, encAll]
  | k + 1, hk => by
    have ih := stR_put zl h k (by omega)
    have hr := allOk_at h k (by omega)
    have hsp : zl = zl.take k ++ zl.getD k 0 :: zl.drop (k + 1) := by
      have h1 : zl = zl.take k ++ zl.drop k := (List.take_append_drop k zl).symm
      have h2 : zl.drop k = zl.getD k 0 :: zl.drop (k + 1) := by
        rw [List.drop_eq_getElem_cons (by omega)]
        simp [List.getD, show k < zl.length by omega]
      rw [← h2]; exact h1
    have hdrop : (encAll zl).drop (encAll (zl.take k)).length = Lib.encodeRune (zl.getD k 0) ++ encAll (zl.drop (k + 1)) := by
      have e : encAll zl = encAll (zl.take k) ++ (Lib.encodeRune (zl.getD k 0) ++ encAll (zl.drop (k + 1))) := by
        conv => lhs; rw [hsp]
        rw [encAll_append]
        simp [encAll]
      rw [e, List.drop_left]
    have hdec : Utf8.decode ⟨(encAll zl).toArray⟩ (encAll (zl.take k)).length = ((zl.getD k 0).toNat, (Lib.encodeRune (zl.getD k 0)).length) := by
      rw [← Lib.decodeL_drop]
      simp only
      rw [hdrop, decode_encode _ hr]
    have hlen := enc_length (zl.getD k 0)
    have hok : okAt ⟨(encAll zl).toArray⟩ (encAll (zl.take k)).length := by
      unfold okAt
      rw [hdec]
      rintro ⟨e1, e2⟩
      simp only at e1 e2
      have : zl.getD k 0 = 65533 := by have := hr.1; omega
      rw [this] at e2
      exact absurd e2 (by decide)
    have hlt : (encAll (zl.take k)).length < (⟨(encAll zl).toArray⟩ : ByteArray).size := by
      have : ((encAll zl).drop (encAll (zl.take k)).length).length = (Lib.encodeRune (zl.getD k 0)).length + (encAll (zl.drop (k + 1))).length := by rw [hdrop, List.length_append]
      rw [List.length_drop] at this
      simp only [ByteArray.size, List.size_toArray]
      omega
    rw [stR, ih]
    simp only
    rw [if_pos ⟨hlt, hok⟩, hdec]
    simp only
    rw [ztake_snoc zl k (by omega), encAll_snoc, List.length_append]
    have : (((zl.getD k 0).toNat : Nat) : Int) = zl.getD k 0 := Int.toNat_of_nonneg hr.1
    rw [this]

theorem fin_put (zl : List Int) (h : allOk zl) : finR ⟨(encAll zl).toArray⟩ = ((⟨(encAll zl).toArray⟩ : ByteArray).size, zl) := by
  have e := stR_put zl h zl.length (Nat.le_refl _)
  rw [List.take_length] at e
  have hst : stuckR ⟨(encAll zl).toArray⟩ zl.length := by
    unfold stuckR
    rw [e]
    simp [ByteArray.size]
  rw [← stR_fin _ _ hst, e]
  simp [ByteArray.size]

theorem ascii_fin (s : ByteArray) (h : asciiB s.data.toList = true) : (finR s).1 = s.size := by
  rw [← valid_iff]
  have := Lib.validD_ascii s.data.toList.length s.data.toList (fun b hb => by
    rw [List.take_length] at hb
    unfold asciiB at h
    rw [List.all_eq_true] at h
    exact of_decide_eq_true (h b hb))
  rw [this, List.drop_length]
  rfl

end Go.Proofs.YtcgjabbjpalmkaaDoor
