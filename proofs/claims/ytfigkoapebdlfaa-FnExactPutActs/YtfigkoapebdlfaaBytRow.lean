/- A row of bytes, wherever it lies: what stands of it, its parts, and 'append' of it. -/
import Derived.Test.YtfigkoapebdlfaaRows
import Derived.Test.YtfigkoapebdlfaaBase
import Derived.Test.YtfigkoapebdlfaaBytPlain
import Derived.Maps.AppendAt
import Derived.OpenShut
namespace Go.Proofs.Ytfigkoapebdlfaa
open Go.ChangeShapes Go.RowKit
set_option linter.unusedVariables false

/-- A row of bytes, wherever it lies. -/
def BRow (w : World) (v : Value) (l : List UInt8) : Prop :=
  (l = [] ∧ ∃ ao cap, v = .slice ao 0 cap) ∨ (0 < l.length ∧ ∃ g off cap, v = .slice (some ⟨g, off, none⟩) l.length (l.length + cap) ∧ g < w.heap.size ∧ ∀ i, i < l.length → w.cell? ⟨g, off + i, none⟩ = some (.int .u8 ((l.getD i 0).toNat : Int)))

theorem BRow.below {w w' : World} {v : Value} {l : List UInt8} (h : BRow w v l) (hb : Below w.heap.size w w') : BRow w' v l := by
  rcases h with h | ⟨h0, g, off, cap, h1, h2, h3⟩
  · exact .inl h
  · exact .inr ⟨h0, g, off, cap, h1, Nat.lt_of_lt_of_le h2 hb.size, fun i hi => (hb.cell (p := ⟨g, off + i, none⟩) h2).trans (h3 i hi)⟩

theorem BRow.slice {w : World} {v : Value} {l : List UInt8} (h : BRow w v l) : ∃ ao cap, v = .slice ao l.length cap := by
  rcases h with ⟨rfl, ao, cap, rfl⟩ | ⟨_, g, off, cap, h1, _⟩
  · exact ⟨_, _, rfl⟩
  · exact ⟨_, _, h1⟩

theorem bcell_at {w : World} {B : Nat} {e : TypeId} {g n cap : Nat} {l : List UInt8} (h : w.ownsRow B e 1 (.slice (some ⟨g, 0, none⟩) n cap) n (bcells l)) (k : Nat) (hk : k < n) :
    w.cell? ⟨g, k, none⟩ = some (.int .u8 ((l.getD k 0).toNat : Int)) := by
  have hl : l.length = n := by have := h.1; simpa [bcells] using this
  rw [h.cellAt k (by omega)]
  simp [bcells, List.getD, show k < l.length by omega]

theorem BRow.of_own {w : World} {B : Nat} {e : TypeId} {v : Value} {n : Nat} {l : List UInt8} (h : w.ownsRow B e 1 v n (bcells l)) : BRow w v l := by
  have hl : l.length = n := by have := h.1; simpa [bcells] using this
  have h' := h
  rcases h.2 with ⟨rfl, h0⟩ | ⟨g, cap, cur, rfl, hb, hg, hnc, hcm, hcs, htake⟩
  · exact .inl ⟨List.eq_nil_of_length_eq_zero (by omega), _, _, by rw [show (0 : Nat) = 0 from rfl]⟩
  · by_cases h0 : n = 0
    · subst h0
      exact .inl ⟨List.eq_nil_of_length_eq_zero (by omega), _, _, rfl⟩
    · refine .inr ⟨by omega, g, 0, cap - n, by rw [hl, Nat.add_sub_cancel' hnc], (Array.getElem?_eq_some_iff.1 hg).1, fun i hi => ?_⟩
      rw [Nat.zero_add]
      exact bcell_at h' i (by omega)

theorem own_blen {w : World} {B : Nat} {e : TypeId} {v : Value} {n : Nat} {l : List UInt8} (h : w.ownsRow B e 1 v n (bcells l)) : l.length = n := by
  have := h.1; simpa [bcells] using this

/-- The bytes that came in. -/
theorem open_bytes {w : World} {a : Option Addr} {len cap : Nat} {zs : List Int}
    (h : (a = none ∧ len = 0 ∧ cap = 0 ∧ zs = []) ∨ ∃ x, a = some x ∧ len ≤ cap ∧ cap ≤ maxLen ∧ zs.length = cap ∧ (∀ i, i < zs.length → w.cell? (x.add i) = some (.int .u8 (zs.getD i 0))) ∧ ∀ n ∈ zs, (Lit.int .u8 n).wf = true) :
    ∃ l : List UInt8, l.length = len ∧ BRow w (.slice a len cap) l := by
  rcases h with ⟨rfl, rfl, rfl, rfl⟩ | ⟨x, rfl, h1, h2, h3, h4, h5⟩
  · exact ⟨[], rfl, .inl ⟨rfl, _, _, rfl⟩⟩
  · by_cases h0 : len = 0
    · subst h0
      exact ⟨[], rfl, .inl ⟨rfl, _, _, rfl⟩⟩
    · obtain ⟨b, off, rfl, hc⟩ := ints_at h4 (by omega)
      have hl : ((zs.take len).map fun z => UInt8.ofNat z.toNat).length = len := by simp; omega
      refine ⟨(zs.take len).map fun z => UInt8.ofNat z.toNat, hl, .inr ⟨by omega, b, off, cap - len, by rw [hl, Nat.add_sub_cancel' h1], World.block_lt_of_cell? w ⟨b, off + 0, none⟩ (hc 0 (by omega)), fun i hi => ?_⟩⟩
      rw [hl] at hi
      rw [hc i (by omega)]
      have hm : zs.getD i 0 ∈ zs := by
        rw [List.getD_eq_getElem?_getD, List.getElem?_eq_getElem (by omega)]
        exact List.getElem_mem _
      have hb := bounds_u8 (h5 _ hm)
      have e : ((zs.take len).map fun z => UInt8.ofNat z.toNat).getD i 0 = UInt8.ofNat (zs.getD i 0).toNat := by
        simp [List.getD, hi, show i < zs.length by omega]
      rw [e, ofNat_toNat (by omega)]
      congr 2
      omega

/-- A part of a row. -/
theorem BRow.part {w : World} {g off : Nat} {l : List UInt8} (hg : g < w.heap.size) (hc : ∀ i, i < l.length → w.cell? ⟨g, off + i, none⟩ = some (.int .u8 ((l.getD i 0).toNat : Int))) {a n c o : Nat} (ha : a + n ≤ l.length) (hcap : n ≤ c) (ho : o = off + a) :
    BRow w (.slice (some ⟨g, o, none⟩) n c) (partL l a n) := by
  subst ho
  have hl := partL_len ha
  by_cases h0 : n = 0
  · subst h0
    exact .inl ⟨List.eq_nil_of_length_eq_zero hl, _, _, rfl⟩
  · refine .inr ⟨by omega, g, off + a, c - n, by rw [hl, Nat.add_sub_cancel' hcap], hg, fun i hi => ?_⟩
    rw [hl] at hi
    rw [Nat.add_assoc, hc (a + i) (by omega)]
    congr 3
    unfold partL
    simp [List.getD, hi]

theorem run_append_noneB {P : Program} (w : World) (base : Nat) (t ty e : TypeId) (i : TypeInfo) (size : Nat) (ht : P.underlying t = some (.slice e)) (hi : P.info? e = some i)
    (v : Value) (n c : Nat) (xs : List Value) (hown : w.ownsRow base e size v n xs) :
    (Builtin.append_ #[t, t] ty #[v, .slice none 0 c]).run P w = .ok v w := by
  rcases hown.2 with ⟨rfl, rfl⟩ | ⟨g, cap, cur, rfl, _, _, hnc, _⟩
  · simp [Builtin.append_, run_underlying ht, sizeOf, typeInfo, hi, Builtin.lenOf, Builtin.firstCells]
  · simp [Builtin.append_, run_underlying ht, sizeOf, typeInfo, hi, Builtin.lenOf, Builtin.firstCells, hnc, storeCells]

/-- 'append(out, more...)': a row of bytes, wherever it lies, behind one that the call owns. -/
theorem wpList_append_brow {P : Program} {w : World} {ops : Array Oper} {rest : List Oper} {o : Oper} {a : Act} {Q : Exit → Act → World → Prop}
    (hgd : o.guard = none) (s x : Operand) (t : TypeId) (hop : o.op = .call { callee := .builtin .append, args := #[s, x], argTypes := #[t, t] })
    (B : Nat) (e : TypeId) (ht : P.underlying t = some (.slice e)) (hinfo : (P.info? e).map (fun i => (i.zero, i.size, i.bytes)) = some (some (.int .u8 0), 1, 1))
    (v : Value) (n : Nat) (l : List UInt8) (hs : a.eval s = v) (hown : w.ownsRow B e 1 v n (bcells l)) (q : Value) (m : List UInt8) (hx : a.eval x = q) (hq : BRow w q m)
    (hroom : n + m.length ≤ 140737488355328) (hB : B ≤ w.heap.size)
    (hK : ∀ v' w1, w1.ownsRow B e 1 v' (n + m.length) (bcells (l ++ m)) → w.grownBy w1 v.ownBlock → (v'.ownBlock = v.ownBlock ∨ v'.ownBlock = some w.heap.size) → wpList P ops Q rest (a.put o.dst v') w1) :
    wpList P ops Q (o :: rest) a w := by
  obtain ⟨i0, hi, hz0, hz1, hz2⟩ := info_parts hinfo
  have main : ∀ ad c, q = .slice (some ad) m.length c → (∀ j u, (bcells m)[j]? = some u → w.cell? (ad.add j) = some u) → wpList P ops Q (o :: rest) a w := fun ad c hqe hc => by
    refine wpList_append_own_at w hgd s x t hop B e i0 (.int .u8 0) 1 1 ht hi hz0 hz1 hz2 rfl (by decide) v n (bcells l) hs hown ad m.length c (bcells m) (hx.trans hqe) (by rw [bcells_length, Nat.mul_one]) hc (bcells_oneCell m) (by unfold maxLen; omega) (by omega) hB ?_
    intro v' w1 g1 g2 _ g4
    exact hK v' w1 (by rw [bcells_append]; exact g1) g2 g4
  rcases hq with ⟨rfl, ao, cap, hqe⟩ | ⟨h0, g, off, c, hqe, hg, hc⟩
  · cases ao with
    | none =>
      refine wpList_plain hgd fun K hKK => ?_
      have hrun := run_append_noneB (P := P) w B t o.type e i0 1 ht hi v n cap (bcells l) hown
      unfold Oper.wp
      have hx2 : a.eval x = .slice none 0 cap := hx.trans hqe
      simp [execOp, hop, resolve, invoke, builtin, hs, hx2, hrun, Result.andThen]
      exact hKK _ _ (hK v w (by rw [List.append_nil]; exact hown) ⟨rfl, rfl, rfl, Nat.le_refl _, fun _ _ _ => rfl⟩ (.inl rfl))
    | some ad => exact main ad cap hqe fun j u hj => by simp [bcells] at hj
  · refine main _ _ hqe fun j u hj => ?_
    have hjl : j < m.length := by
      have := (List.getElem?_eq_some_iff.1 hj).1
      rwa [bcells_length] at this
    rw [Addr.add_lit, hc j hjl, ← hj]
    simp [bcells, List.getD, hjl]

theorem run_string_row {P : Program} (w : World) (src dst e : TypeId) (hs : P.underlying src = some (.slice e)) (he : P.underlying e = some (.int .u8)) (hd : P.underlying dst = some .string)
    {v : Value} {l : List UInt8} (h : BRow w v l) :
    (convert src dst v).run P w = .ok (.string ⟨l.toArray⟩) w := by
  rcases h with ⟨rfl, ao, cap, rfl⟩ | ⟨h0, g, off, cap, rfl, hg, hc⟩
  · rw [run_convert_bytes_string w src dst e _ _ _ hs he hd]
    cases ao <;> simp [Conv.bytesToString] <;> rfl
  · refine run_convert_bytes_back w src dst e ⟨g, off, none⟩ _ l hs he hd fun j hj => ?_
    rw [Addr.add_lit, hc j hj]
    simp [List.getD, hj]

theorem Try.infoByte : (Try.prog.info? 5).map (fun i => (i.zero, i.size, i.bytes)) = some (some (.int .u8 0), 1, 1) := by kernel_rfl
end Go.Proofs.Ytfigkoapebdlfaa
