/- Addresses come back of their texts: the program's own functions one behind another. -/
import Derived.Test.YtophgcneckjdjaaDoorRows
import Derived.Test.YtophgcneckjdjaaDoorPar6Eight
import Derived.Test.YtophgcneckjdjaaDoorDraw5Walk
namespace Go.Proofs.YtophgcneckjdjaaDoor
open Go.RowKit

theorem ip4T_list {n : Int} : (ip4T n).data.toList = ip4L n.toNat := by simp [ip4T]
theorem ip4T_size (n : Int) : (ip4T n).size ≤ 100 := by
  unfold ip4T
  show (ip4L n.toNat).toArray.size ≤ 100
  rw [List.size_toArray]
  unfold ip4L
  have h1 := dec3_len (n.toNat / 16777216)
  have h2 := dec3_len (n.toNat / 65536 % 256)
  have h3 := dec3_len (n.toNat / 256 % 256)
  have h4 := dec3_len (n.toNat % 256)
  simp
  omega
theorem numA_back {n : Int} (h : 0 ≤ n) : numA (some n.toNat) = .tuple #[.int .i64 n, .bool true] := by
  show Value.tuple #[.int .i64 ((n.toNat : Nat) : Int), .bool true] = _
  rw [Int.toNat_of_nonneg h]

theorem implParse_back {n : Int} (h0 : 0 ≤ n) (h1 : n < 4294967296) (W : World) (hT : Pow W) :
    Calls Tryd.prog 12 #[.string (ip4T n)] W fun e w' => e = .returned (.tuple #[.int .i64 n, .bool true]) ∧ Below W.heap.size W w' := by
  have h := implParseIp4 (ip4T n) W (by have := ip4T_size n; omega) hT
  rw [ip4T_list, p4_ip4 (by omega), numA_back h0] at h
  exact h
theorem implLoose_back {n : Int} (h0 : 0 ≤ n) (h1 : n < 4294967296) (W : World) :
    Calls Tryd.prog 13 #[.string (ip4T n)] W fun e w' => e = .returned (.tuple #[.int .i64 n, .bool true]) ∧ Below W.heap.size W w' := by
  have h := implLooseIp4 (ip4T n) W (by have := ip4T_size n; omega)
  rw [loA_ip4 (n := n.toNat) (by omega) ip4T_list, numA_back h0] at h
  exact h

theorem six_nat {z : List Int} (h : sixOk z) : ∀ g ∈ z.map Int.toNat, g < 65536 := by
  intro g hg
  obtain ⟨x, hx, rfl⟩ := List.mem_map.1 hg
  have := h.2 x hx
  omega
theorem six_ok {z : List Int} (h : sixOk z) : okG z = true := okG_yes h.2
theorem six_list {x0 x1 x2 x3 x4 x5 x6 x7 : Int} (h : sixOk [x0, x1, x2, x3, x4, x5, x6, x7]) : par6 (ip6L [x0, x1, x2, x3, x4, x5, x6, x7]) = some ([x0, x1, x2, x3, x4, x5, x6, x7].map Int.toNat) := by
  unfold ip6L
  rw [if_pos (six_ok h)]
  have hr := row_ok x0 x1 x2 x3 x4 x5 x6 x7
  have hle := row_le hr
  unfold rowOkB at hr
  have hz : ∀ i, i < 8 → (zb [x0, x1, x2, x3, x4, x5, x6, x7]).getD i false = true → ([x0, x1, x2, x3, x4, x5, x6, x7].map Int.toNat).getD i 0 = 0 := by
    intro i hi hb
    have h8 : i = 0 ∨ i = 1 ∨ i = 2 ∨ i = 3 ∨ i = 4 ∨ i = 5 ∨ i = 6 ∨ i = 7 := by omega
    rcases h8 with rfl | rfl | rfl | rfl | rfl | rfl | rfl | rfl <;> simp [zb] at hb ⊢ <;> omega
  generalize rowI 0 (0, 0, 0) (zb [x0, x1, x2, x3, x4, x5, x6, x7]) = p at hr hle ⊢
  simp only [Bool.and_eq_true, decide_eq_true_eq] at hr
  by_cases c : p.2.1 - p.1 < 2
  · unfold ip6T
    rw [if_pos c]
    exact par6_gt rfl (six_nat h)
  · have h3 := hr.2
    rw [if_neg c] at h3
    simp only [Bool.and_eq_true, decide_eq_true_eq, List.all_eq_true, List.mem_range, Bool.or_eq_true, Bool.not_eq_true', Bool.and_eq_false_iff, decide_eq_false_iff_not] at h3
    refine par6_text rfl (six_nat h) hle.2 ?_
    intro i h1 h2
    refine hz i (by omega) ?_
    rcases h3.2 i (by omega) with h4 | h4
    · omega
    · exact h4

theorem ip6_sizes {x0 x1 x2 x3 x4 x5 x6 x7 : Int} (h : sixOk [x0, x1, x2, x3, x4, x5, x6, x7]) : 2 ≤ (⟨(ip6L [x0, x1, x2, x3, x4, x5, x6, x7]).toArray⟩ : ByteArray).size ∧ (⟨(ip6L [x0, x1, x2, x3, x4, x5, x6, x7]).toArray⟩ : ByteArray).size ≤ 39 := by
  show 2 ≤ (ip6L [x0, x1, x2, x3, x4, x5, x6, x7]).toArray.size ∧ (ip6L [x0, x1, x2, x3, x4, x5, x6, x7]).toArray.size ≤ 39
  rw [List.size_toArray]
  unfold ip6L
  rw [if_pos (six_ok h)]
  exact ip6_len rfl (row_le (row_ok x0 x1 x2 x3 x4 x5 x6 x7)).2

theorem implParse6_back {x0 x1 x2 x3 x4 x5 x6 x7 : Int} (h : sixOk [x0, x1, x2, x3, x4, x5, x6, x7]) (W : World) (hT : Pow W) (hD : Bruijn W) (hM : MaxI W) :
    Calls Tryd.prog 15 #[.string ⟨(ip6L [x0, x1, x2, x3, x4, x5, x6, x7]).toArray⟩] W fun e w' => e = .returned (.tuple #[.agg #[.int .i64 x0, .int .i64 x1, .int .i64 x2, .int .i64 x3, .int .i64 x4, .int .i64 x5, .int .i64 x6, .int .i64 x7], .bool true]) ∧ Below W.heap.size W w' := by
  have hc := implParseIp6 ⟨(ip6L [x0, x1, x2, x3, x4, x5, x6, x7]).toArray⟩ W (by have := (ip6_sizes h).2; omega) hT hD hM
  rw [show (⟨(ip6L [x0, x1, x2, x3, x4, x5, x6, x7]).toArray⟩ : ByteArray).data.toList = ip6L [x0, x1, x2, x3, x4, x5, x6, x7] by simp, six_list h] at hc
  have e : parV (some ([x0, x1, x2, x3, x4, x5, x6, x7].map Int.toNat)) = .tuple #[.agg #[.int .i64 x0, .int .i64 x1, .int .i64 x2, .int .i64 x3, .int .i64 x4, .int .i64 x5, .int .i64 x6, .int .i64 x7], .bool true] := by
    show Value.tuple #[.agg ((toI ([x0, x1, x2, x3, x4, x5, x6, x7].map Int.toNat)).map (Value.int .i64)).toArray, .bool true] = _
    have ht : toI ([x0, x1, x2, x3, x4, x5, x6, x7].map Int.toNat) = [x0, x1, x2, x3, x4, x5, x6, x7] := by
      have hs := h.2
      unfold toI
      rw [List.map_map]
      generalize [x0, x1, x2, x3, x4, x5, x6, x7] = z at hs
      have e1 : z.map ((fun n : Nat => (n : Int)) ∘ Int.toNat) = z.map id := List.map_congr_left fun x hx => by
        have := hs x hx
        simp
        omega
      rw [e1, List.map_id]
    rw [ht]
    rfl
  rw [e] at hc
  exact hc
end Go.Proofs.YtophgcneckjdjaaDoor
