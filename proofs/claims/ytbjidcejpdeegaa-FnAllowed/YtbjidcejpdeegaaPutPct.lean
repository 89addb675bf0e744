/- Contracts of what appends a percent. -/
import Derived.Test.YtbjidcejpdeegaaRows
import Derived.Test.YtbjidcejpdeegaaUnWalk
import Derived.Deep.RegionLaw
namespace Go.Proofs.Ytbjidcejpdeegaa
open Go.RowKit

/-- 'append' to a row that the call owns, as one step of a region that draws. -/
theorem step_append_mine {P : Program} {w : World} {ops : Array Oper} {o : Oper} {a : Act} {K : Act → World → Prop} {Q : Exit → Act → World → Prop} {E : Prop} (hg : o.guard = none) (s x : Operand) (t : TypeId)
    (hop : o.op = .call { callee := .builtin .append, args := #[s, x], argTypes := #[t, t] })
    (B : Nat) (e : TypeId) (z : Value) (bytes : Nat) (ht : P.underlying t = some (.slice e)) (hinfo : (P.info? e).map (fun i => (i.zero, i.size, i.bytes)) = some (some z, 1, bytes)) (hz : z.cells.size = 1)
    (v : Value) (n : Nat) (xs : List Value) (hs : a.eval s = v) (hown : w.ownsRow B e 1 v n xs)
    (ad : Addr) (m c : Nat) (news : List Value) (hx : a.eval x = .slice (some ad) m c) (hl : news.length = m * 1) (hnews : ∀ j u, news[j]? = some u → w.cell? (ad.add j) = some u) (h1 : ∀ u ∈ news, u.oneCell' = true)
    (h63 : n + m ≤ maxLen) (hbytes : (n + m) * bytes ≤ 140737488355328) (hbase : B ≤ w.heap.size)
    (hK : ∀ v' w', w'.ownsRow B e 1 v' (n + m) (xs ++ news) → w.grownBy w' v.ownBlock → K (a.put o.dst v') w') :
    if Region.wanted o (yielded ops a.tmps) = true then Oper.wp P o a w K Q else E := by
  obtain ⟨i0, hi, hz0, hz1, hz2⟩ := info_parts hinfo
  have hw : Region.wanted o (yielded ops a.tmps) = true := by simp [Region.wanted, hg]
  rw [if_pos hw]
  exact wp_append_own w s x t hop B e i0 z 1 bytes ht hi hz0 hz1 hz2 hz (by decide) v n xs hs hown ad m c news hx hl hnews h1 h63 hbytes hbase fun v' w' a b _ => hK v' w' a b

def digits16 : ByteArray := ⟨#[48, 49, 50, 51, 52, 53, 54, 55, 56, 57, 65, 66, 67, 68, 69, 70]⟩

theorem dig_at : ∀ n, (h : n < 16) → (digits16[n]'h).toNat = (digU n).toNat := by decide +kernel

theorem dig_run (P : Program) (t : TypeId) (h : P.underlying t = some .string) (k : IntKind) (n : Nat) (hn : n < 16) (i : Int) (hi : i = (n : Int)) (W : World) :
    (Instr.index t (.string ⟨#[48, 49, 50, 51, 52, 53, 54, 55, 56, 57, 65, 66, 67, 68, 69, 70]⟩) (.int k i)).run P W = .ok (.int .u8 ((digU n).toNat : Int)) W := by
  subst hi
  have hs : (⟨#[48, 49, 50, 51, 52, 53, 54, 55, 56, 57, 65, 66, 67, 68, 69, 70]⟩ : ByteArray).size = 16 := rfl
  rw [run_index_string W t _ k _ h, dif_pos (by omega)]
  simp only [Int.toNat_natCast]
  exact congrArg (fun d : Nat => Result.ok (Value.int .u8 (d : Int)) W) (dig_at n hn)

theorem and15_all : ∀ n : Nat, n < 256 → bits .and .u8 (n : Int) 15 = (n : Int) % 16 := by decide +kernel

theorem own_pct {w1 : World} {B : Nat} {e : TypeId} {v : Value} {o : List UInt8} (c : UInt8) {x y : Int} (hx : x = ((digU (c.toNat / 16)).toNat : Int)) (hy : y = ((digU (c.toNat % 16)).toNat : Int))
    (h : w1.ownsRow B e 1 v (o.length + 3) (bcells o ++ [Value.int .u8 37, .int .u8 x, .int .u8 y])) : w1.ownsRow B e 1 v (o ++ putB c).length (bcells (o ++ putB c)) := by
  subst hx hy
  rw [bcells_append, List.length_append]
  exact h


set_option maxHeartbeats 2000000 in
theorem specPut (c : UInt8) (d : Nat) (hd : c.toNat = d) (v : Value) (o : List UInt8) (B : Nat) (w : World) (hown : w.ownsRow B 5 1 v o.length (bcells o)) (hB : B ≤ w.heap.size) (hl : o.length ≤ 1099511627776) :
    Calls Try.prog 55 #[v, .int .u8 (d : Int)] w fun e w' => ∃ v', e = .returned v' ∧ w'.ownsRow B 5 1 v' (o ++ putB c).length (bcells (o ++ putB c)) ∧ Below B w w' := by
  have hd1 : (d : Int) ≤ 255 := by have := c.toNat_lt; omega
  have hd0 : 0 ≤ (d : Int) := by omega
  have hb := and15_all d (by omega)
  have i1 := dig_run Try.prog 9 Try.underlying9 .u8 (d / 16) (by omega) ((d : Int) / 16) (by omega)
  have i2 := dig_run Try.prog 9 Try.underlying9 .u8 (d % 16) (by omega) ((d : Int) % 16) (by omega)
  obtain ⟨p, hp⟩ : ∃ p : Int, ((digU (d / 16)).toNat : Int) = p := ⟨_, rfl⟩
  obtain ⟨q, hq⟩ : ∃ q : Int, ((digU (d % 16)).toNat : Int) = q := ⟨_, rfl⟩
  rw [hp] at i1
  rw [hq] at i2
  have HP : Hid (p = ((digU (c.toNat / 16)).toNat : Int)) := by show _ = _; rw [hd, hp]
  have HQ : Hid (q = ((digU (c.toNat % 16)).toNat : Int)) := by show _ = _; rw [hd, hq]
  clear hp hq
  have HA : Hid ((w.alloc (.cells #[.int .u8 37, .int .u8 p, .int .u8 q] 5)).drew.ownsRow B 5 1 v o.length (bcells o)) := hown.alloc _
  have HN : Hid (∀ j u, [Value.int .u8 37, .int .u8 p, .int .u8 q][j]? = some u → (w.alloc (.cells #[.int .u8 37, .int .u8 p, .int .u8 q] 5)).drew.cell? ((⟨w.heap.size, 0, none⟩ : Addr).add j) = some u) := by
    intro j u hj
    show (w.alloc (.cells #[.int .u8 37, .int .u8 p, .int .u8 q] 5)).cell? _ = _
    rw [Addr.add_lit, Nat.zero_add, World.cell?_alloc_at _ _ _ _ rfl]
    simpa using hj
  have H1 : Hid (∀ u ∈ [Value.int .u8 37, .int .u8 p, .int .u8 q], u.oneCell' = true) := by
    intro u hu
    simp at hu
    rcases hu with rfl | rfl | rfl <;> rfl
  have HB : Hid (∀ w1 : World, (w.alloc (.cells #[.int .u8 37, .int .u8 p, .int .u8 q] 5)).drew.grownBy w1 v.ownBlock → Below B w w1) := fun w1 hg =>
    (((Below.refl B w).alloc hB _).drew).grown hg (by simp; omega) (fun k hk => (hown.lt k hk).1)
  have HL : Hid (B ≤ (w.alloc (.cells #[.int .u8 37, .int .u8 p, .int .u8 q] 5)).drew.heap.size) := by show B ≤ _; simp; omega
  go_enter Try.func55, Try.ntmps55
  go_wp2_with fail
  go_region_law ((refine step_append_mine rfl (.tmp 5) (.tmp 12) 22 rfl B 5 (.int .u8 0) 1 Try.underlying22 Try.info5 rfl v o.length (bcells o) rfl HA.out ⟨w.heap.size, 0, none⟩ 3 3 [.int .u8 37, .int .u8 p, .int .u8 q] rfl rfl HN.out H1.out (by unfold maxLen; omega) (by omega) HL.out ?_; intro v' w1 hown' hgrow))
  all_goals
    go_wp2
    go_ret
    exact ⟨_, rfl, own_pct c HP.out HQ.out hown', HB.out _ hgrow⟩
end Go.Proofs.Ytbjidcejpdeegaa
