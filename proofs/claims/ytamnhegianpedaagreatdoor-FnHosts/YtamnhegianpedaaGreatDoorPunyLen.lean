/- A code is not long: plain laws, of no program. -/
import Derived.Test.YtamnhegianpedaaGreatDoorPunyPlain
namespace Go.Proofs.YtamnhegianpedaaGreatDoor

theorem num_len10 (bias : Nat) : ∀ (F f k q : Nat), q < 10 ^ f → (numF F k bias q).length ≤ f + 1
  | 0, f, k, q, _ => by simp [numF]
  | F + 1, f, k, q, h => by
    obtain ⟨l1, l2⟩ := lim_le k bias
    rw [numF]
    split
    · simp
    · next hq =>
      cases f with
      | zero => simp at h; omega
      | succ f =>
        have h1 : (q - limN k bias) / (36 - limN k bias) < 10 ^ f := by
          rw [Nat.div_lt_iff_lt_mul (by omega)]
          have h2 : 10 ^ f * 10 ≤ 10 ^ f * (36 - limN k bias) := Nat.mul_le_mul_left _ (by omega)
          rw [Nat.pow_succ] at h
          omega
        have := num_len10 bias F f (k + 36) _ h1
        rw [List.length_cons]
        omega
theorem codeV_len9 (basic : Nat) : ∀ (ds : List Nat) (h bias : Nat), (∀ d ∈ ds, d ≤ 67960831) → (codeV basic h bias ds).length ≤ 9 * ds.length
  | [], _, _, _ => by simp [codeV]
  | d :: ds, h, bias, hd => by
    have h1 := codeV_len9 basic ds (h + 1) (adaptN d (h + 1) (h == basic)) (fun x hx => hd x (List.mem_cons_of_mem _ hx))
    have h2 := num_len10 bias 28 8 36 d (by have := hd d (List.mem_cons_self ..); have : (10 : Nat) ^ 8 = 100000000 := by decide
                                            omega)
    show (numF 28 36 bias d ++ codeV basic (h + 1) (adaptN d (h + 1) (h == basic)) ds).length ≤ 9 * (d :: ds).length
    rw [List.length_append, List.length_cons]
    omega
theorem encC_600 {l : List Nat} (h : encOk l = true) : (encC l).length ≤ 600 := by
  obtain ⟨h1, h2⟩ := encOk_parts h
  have h3 := enc_count l h2 l.length 128 0
  have h4 := codeV_len9 (l.filter (· < 128)).length (encD l l.length 128 0 (l.filter (· < 128)).length) (l.filter (· < 128)).length 72 (enc_le l h1 h2 _ _ _ (by omega))
  have h5 := List.length_filter_le (fun x => decide (x < 128)) l
  unfold encC encV
  rw [List.length_append, List.length_append, List.length_map]
  have h6 : (if 0 < (l.filter (· < 128)).length then [45] else []).length ≤ 1 := by split <;> simp
  have h7 : (l.filter (· < 128)).length = 0 → (if 0 < (l.filter (· < 128)).length then [45] else []).length = 0 := fun h => by rw [if_neg (by omega)]; rfl
  omega
end Go.Proofs.YtamnhegianpedaaGreatDoor
