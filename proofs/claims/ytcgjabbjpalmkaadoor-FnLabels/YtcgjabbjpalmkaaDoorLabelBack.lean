/- Plain laws of labels: what is put into letters comes back of its runes. -/
import Derived.Test.YtcgjabbjpalmkaaDoorRows
import Derived.Test.YtcgjabbjpalmkaaDoorUniWalk
namespace Go.Proofs.YtcgjabbjpalmkaaDoor
open Go.RowKit

theorem enc_bytes (r : Int) (h : runeOk r) : (r < 128 ∧ Lib.encodeRune r = [r.toNat.toUInt8]) ∨ (128 ≤ r ∧ Lib.encodeRune r ≠ [] ∧ ∀ c ∈ Lib.encodeRune r, 128 ≤ c.toNat) := by
  obtain ⟨h0, h1, h2⟩ := h
  by_cases a : r < 128
  · exact .inl ⟨a, by unfold Lib.encodeRune; rw [Lib.encodeRuneZ_one h0 (by omega)]; rfl⟩
  · refine .inr ⟨by omega, ?_⟩
    by_cases b : r < 2048
    · have e : Lib.encodeRune r = [(192 + r / 64).toNat.toUInt8, (128 + r % 64).toNat.toUInt8] := by unfold Lib.encodeRune; rw [Lib.encodeRuneZ_two (by omega) (by omega)]; rfl
      rw [e]
      refine ⟨by simp, fun c hc => ?_⟩
      simp only [List.mem_cons, List.not_mem_nil, or_false] at hc
      rcases hc with rfl | rfl <;> (rw [byte_nat _ (by omega) (by omega)]; omega)
    · by_cases c : r < 65536
      · have e : Lib.encodeRune r = [(224 + r / 4096).toNat.toUInt8, (128 + r / 64 % 64).toNat.toUInt8, (128 + r % 64).toNat.toUInt8] := by unfold Lib.encodeRune; rw [Lib.encodeRuneZ_three (by omega)]; rfl
        rw [e]
        refine ⟨by simp, fun c hc => ?_⟩
        simp only [List.mem_cons, List.not_mem_nil, or_false] at hc
        rcases hc with rfl | rfl | rfl <;> (rw [byte_nat _ (by omega) (by omega)]; omega)
      · have e : Lib.encodeRune r = [(240 + r / 262144).toNat.toUInt8, (128 + r / 4096 % 64).toNat.toUInt8, (128 + r / 64 % 64).toNat.toUInt8, (128 + r % 64).toNat.toUInt8] := by unfold Lib.encodeRune; rw [Lib.encodeRuneZ_four (by omega) (by omega)]; rfl
        rw [e]
        refine ⟨by simp, fun c hc => ?_⟩
        simp only [List.mem_cons, List.not_mem_nil, or_false] at hc
        rcases hc with rfl | rfl | rfl | rfl <;> (rw [byte_nat _ (by omega) (by omega)]; omega)

theorem low_keep {l : List UInt8} (h : ∀ c ∈ l, ¬ (65 ≤ c.toNat ∧ c.toNat ≤ 90)) : lowerL l = l := by
  unfold lowerL
  conv => rhs; rw [← List.map_id l]
  refine List.map_congr_left fun c hc => ?_
  unfold lowerC
  rw [if_neg (h c hc)]
  rfl

theorem enc_small {zl : List Int} (h : allOk zl) (h2 : ∀ z ∈ zl, ¬ (65 ≤ z ∧ z ≤ 90)) : ∀ c ∈ encAll zl, ¬ (65 ≤ c.toNat ∧ c.toNat ≤ 90) := by
  intro c hc
  unfold encAll at hc
  obtain ⟨r, hr, hcr⟩ := List.mem_flatMap.1 hc
  rcases enc_bytes r (h r hr) with ⟨h3, e⟩ | ⟨_, _, h3⟩
  · rw [e, List.mem_singleton] at hcr
    rw [hcr, byte_nat r (h r hr).1 (by omega)]
    have := h2 r hr
    have := (h r hr).1
    omega
  · have := h3 c hcr
    omega

theorem enc_great {zl : List Int} (h : allOk zl) (h2 : ∃ z ∈ zl, 128 ≤ z) : asciiB (encAll zl) = false := by
  obtain ⟨r, hr, hr2⟩ := h2
  rcases enc_bytes r (h r hr) with ⟨h3, _⟩ | ⟨_, hne, h3⟩
  · omega
  · unfold asciiB
    rw [List.all_eq_false]
    match he : Lib.encodeRune r, hne with
    | c :: t, _ =>
      refine ⟨c, ?_, ?_⟩
      · unfold encAll
        exact List.mem_flatMap.2 ⟨r, hr, by rw [he]; exact List.mem_cons_self⟩
      · have := h3 c (by rw [he]; exact List.mem_cons_self)
        simpa using this

/-- A label in letters: its runes' text is put into the same letters. -/
theorem label_back {a : List UInt8} (h : ascL a = some a) : ∃ u : List UInt8, uniL a = some u ∧ u.length ≤ 240 ∧ ascL u = some a := by
  have hok := ascL_ok h
  have hlab := okA_lab hok
  have hlen := (labL_parts hlab).2.1
  cases hx : isXn a with
  | false =>
    refine ⟨a, ?_, by omega, h⟩
    unfold uniL
    rw [if_pos h, if_neg (by rw [hx]; decide)]
  | true =>
    obtain ⟨l, hr⟩ := code_some h hx
    have hd : decC (nat8 (a.drop 4)) = some l := (codeR_xn hx).symm.trans hr
    obtain ⟨hg, hs⟩ := dec_lab hx hlab hd
    obtain ⟨hal, hl60⟩ := code_okZ hr
    refine ⟨encAll (l.map fun (c : Nat) => (c : Int)), ?_, ?_, ?_⟩
    · unfold uniL
      rw [if_pos h, if_pos hx, hd]
      rfl
    · have := encAll_le (l.map fun (c : Nat) => (c : Int))
      rw [List.length_map] at this
      omega
    · have hnb : asciiB (encAll (l.map fun (c : Nat) => (c : Int))) = false := enc_great hal (by
        obtain ⟨x, hx, h128⟩ := hg
        exact ⟨(x : Int), List.mem_map.2 ⟨x, hx, rfl⟩, by omega⟩)
      have hlow : lowerL (encAll (l.map fun (c : Nat) => (c : Int))) = encAll (l.map fun (c : Nat) => (c : Int)) := low_keep (enc_small hal (by
        intro z hz
        obtain ⟨x, hx, rfl⟩ := List.mem_map.1 hz
        have := hs x hx
        omega))
      have hfin := fin_put _ hal
      have e1 : (finR ⟨(lowerL (encAll (l.map fun (c : Nat) => (c : Int)))).toArray⟩).2 = l.map fun (c : Nat) => (c : Int) := by rw [hlow, hfin]
      have e2 : (finR ⟨(lowerL (encAll (l.map fun (c : Nat) => (c : Int)))).toArray⟩).1 = (encAll (l.map fun (c : Nat) => (c : Int))).length := by
        rw [hlow, hfin]
        exact List.size_toArray
      rw [asc1_yes hnb ⟨e2, by rw [e1, List.length_map]; exact hl60⟩, e1, toNat_back, ((dec_iff _ _).1 hd).2, b8_nat8, ← xn_prefix hx]
      exact if_pos hok
end Go.Proofs.YtcgjabbjpalmkaaDoor
