/- PctWalk, UnWalk, PutPct, KeepSpec, PercentWalk. -/
import Derived.Test.YtjdnemjcjodboaaDoorRq02
import Derived.Deep.RegionLaw
set_option maxHeartbeats 2000000
namespace Go.Proofs.YtjdnemjcjodboaaDoor
open Go.RowKit
theorem below_drewN {B : Nat} {w w' : World} (h : Below B w w') (n : Nat) : Below B w (w'.drewN n) := ⟨h.os, h.tape, h.output, h.size, h.block⟩
theorem pctAt_not {s : ByteArray} {k : Nat} (h : k + 2 < s.size) (h1 : s[k].toNat ≠ 37) : pctAt s k = -1 := by
 rw [pctAt_in s k h]
 unfold pctV
 rw [if_neg (fun h => h1 h.1)]
theorem pctAt_hex {s : ByteArray} {k d1 d2 : Nat} (h : k + 2 < s.size) (h1 : s[k].toNat = 37) (e1 : s[k + 1].toNat = d1) (e2 : s[k + 2].toNat = d2) : pctAt s k = if 0 ≤ hexN d1 ∧ 0 ≤ hexN d2 then hexN d1 * 16 + hexN d2 else -1 := by
 rw [pctAt_in s k h, e1, e2]
 unfold pctV
 simp [h1]
theorem run_at (P : Program) (t : TypeId) (h : P.underlying t = some .string) (s : ByteArray) (i : Int) (j d : Nat) (hj : j < s.size) (hi : i = (j : Int)) (hd : s[j].toNat = d) (W : World) :
  (Instr.index t (.string s) (.int .i64 i)).run P W = .ok (.int .u8 (d : Int)) W := by
 subst hi
 rw [run_index_string W t s .i64 _ h, dif_pos (by omega)]
 simp [hd]
theorem implPctAt (s : ByteArray) (k : Nat) (w : World) (hk : k < s.size) (hs : s.size ≤ 1099511627776) :
  Calls Tryd.prog 51 #[.string s, .int .i64 (k : Int)] w fun e w' => e = .returned (.int .i64 (pctAt s k)) ∧ Below w.heap.size w w' := by
 have hki : (k : Int) ≤ 1099511627776 := by omega
 have hk0 : 0 ≤ (k : Int) := by omega
 have hw1 : IntKind.i64.wrap ((k : Int) + 1) = ((k + 1 : Nat) : Int) := by rw [IntKind.wrap_i64]; omega
 have hw2 : IntKind.i64.wrap ((k : Int) + 2) = ((k + 2 : Nat) : Int) := by rw [IntKind.wrap_i64]; omega
 by_cases h2 : k + 2 < s.size
 ·have h2i : ¬ (s.size : Int) ≤ (k : Int) + 2 := by omega
  by_cases h37 : s[k].toNat = 37
  ·obtain ⟨d1, e1⟩ : ∃ d : Nat, s[k + 1].toNat = d := ⟨_, rfl⟩
   obtain ⟨d2, e2⟩ : ∃ d : Nat, s[k + 2].toNat = d := ⟨_, rfl⟩
   have i1 := run_at Tryd.prog 9 Tryd.underlying9 s ((k : Int) + 1) (k + 1) d1 (by omega) (by omega) e1
   have i2 := run_at Tryd.prog 9 Tryd.underlying9 s ((k : Int) + 2) (k + 2) d2 (by omega) (by omega) e2
   have b1 : d1 ≤ 255 := by have := s[k + 1].toNat_lt; omega
   have b2 : d2 ≤ 255 := by have := s[k + 2].toNat_lt; omega
   have HV : Hid (pctAt s k = if 0 ≤ hexN d1 ∧ 0 ≤ hexN d2 then hexN d1 * 16 + hexN d2 else -1) := pctAt_hex h2 h37 e1 e2
   have c1 := fun n : Nat => Calls.quiet_of_same (w := w) (n := n) (v := .int .i64 (hexN d1)) ((implHex d1 (w.drewN n) b1).mono fun _ _ ⟨a, b⟩ => ⟨a, b.symm⟩)
   have c2 := fun n : Nat => Calls.quiet_of_same (w := w) (n := n) (v := .int .i64 (hexN d2)) ((implHex d2 (w.drewN n) b2).mono fun _ _ ⟨a, b⟩ => ⟨a, b.symm⟩)
   have l1 := hexN_le d1
   have l2 := hexN_le d2
   generalize hexN d1 = x at HV c1 l1
   generalize hexN d2 = y at HV c2 l2
   have C1 : Hid (∀ n, Calls Tryd.prog 76 #[.int .u8 (d1 : Int)] (w.drewN n) fun e w'' => e = .returned (.int .i64 x) ∧ ∃ m, w'' = w.drewN m) := c1
   have C2 : Hid (∀ n, Calls Tryd.prog 76 #[.int .u8 (d2 : Int)] (w.drewN n) fun e w'' => e = .returned (.int .i64 y) ∧ ∃ m, w'' = w.drewN m) := c2
   clear c1 c2
   obtain ⟨l1a, l1b⟩ := l1
   obtain ⟨l2a, l2b⟩ := l2
   by_cases hx : 0 ≤ x
   ·by_cases hy : 0 ≤ y
    ·go_enter Tryd.func51, Tryd.ntmps51
     go_wp2_with fail
     go_quiet ((go_at_call 76; first | with_reducible exact C1.out _ | with_reducible exact C2.out _))
     go_wp2
     go_ret
     exact ⟨ret_int (by rw [HV.out, if_pos ⟨hx, hy⟩]), below_drewN (Below.refl _ _) _⟩
    go_enter Tryd.func51, Tryd.ntmps51
    go_wp2_with fail
    go_quiet ((go_at_call 76; first | with_reducible exact C1.out _ | with_reducible exact C2.out _))
    go_wp2
    go_ret
    exact ⟨ret_int (by rw [HV.out, if_neg (by omega)]), below_drewN (Below.refl _ _) _⟩
   go_enter Tryd.func51, Tryd.ntmps51
   go_wp2_with fail
   go_quiet ((go_at_call 76; first | with_reducible exact C1.out _ | with_reducible exact C2.out _))
   go_wp2
   go_ret
   exact ⟨ret_int (by rw [HV.out, if_neg (by omega)]), below_drewN (Below.refl _ _) _⟩
  have HV : Hid (pctAt s k = -1) := pctAt_not h2 h37
  obtain ⟨d0, e0⟩ : ∃ d : Nat, s[k].toNat = d := ⟨_, rfl⟩
  have hne : ¬ (d0 : Int) = 37 := by omega
  clear h37
  go_enter Tryd.func51, Tryd.ntmps51
  go_wp2
  go_ret
  exact ⟨ret_int (by rw [HV.out]), Below.refl _ _⟩
 have h2i : (s.size : Int) ≤ (k : Int) + 2 := by omega
 have HV : Hid (pctAt s k = -1) := pctAt_out s k (by omega)
 go_enter Tryd.func51, Tryd.ntmps51
 go_wp2
 go_ret
 exact ⟨ret_int (by rw [HV.out]), Below.refl _ _⟩
theorem specByte (s : ByteArray) (k : Nat) (w : World) (hk : k < s.size) (hs : s.size ≤ 1099511627776) :
  Calls Tryd.prog 37 #[.string s, .int .i64 (k : Int)] w fun e w' => e = .returned (.int .i64 (pctAt s k)) ∧ Below w.heap.size w w' := by
 have hki : (k : Int) ≤ 1099511627776 := by omega
 have hk0 : 0 ≤ (k : Int) := by omega
 have hw1 : IntKind.i64.wrap ((k : Int) + 1) = ((k + 1 : Nat) : Int) := by rw [IntKind.wrap_i64]; omega
 have hw2 : IntKind.i64.wrap ((k : Int) + 2) = ((k + 2 : Nat) : Int) := by rw [IntKind.wrap_i64]; omega
 by_cases h2 : k + 2 < s.size
 ·have h2i : ¬ (s.size : Int) ≤ (k : Int) + 2 := by omega
  by_cases h37 : s[k].toNat = 37
  ·obtain ⟨d1, e1⟩ : ∃ d : Nat, s[k + 1].toNat = d := ⟨_, rfl⟩
   obtain ⟨d2, e2⟩ : ∃ d : Nat, s[k + 2].toNat = d := ⟨_, rfl⟩
   have i1 := run_at Tryd.prog 9 Tryd.underlying9 s ((k : Int) + 1) (k + 1) d1 (by omega) (by omega) e1
   have i2 := run_at Tryd.prog 9 Tryd.underlying9 s ((k : Int) + 2) (k + 2) d2 (by omega) (by omega) e2
   have b1 : d1 ≤ 255 := by have := s[k + 1].toNat_lt; omega
   have b2 : d2 ≤ 255 := by have := s[k + 2].toNat_lt; omega
   have HV : Hid (pctAt s k = if 0 ≤ hexN d1 ∧ 0 ≤ hexN d2 then hexN d1 * 16 + hexN d2 else -1) := pctAt_hex h2 h37 e1 e2
   have c1 := fun n : Nat => Calls.quiet_of_same (w := w) (n := n) (v := .int .i64 (hexN d1)) ((specHex d1 (w.drewN n) (by omega)).mono fun _ _ ⟨a, b⟩ => ⟨a, b.symm⟩)
   have c2 := fun n : Nat => Calls.quiet_of_same (w := w) (n := n) (v := .int .i64 (hexN d2)) ((specHex d2 (w.drewN n) (by omega)).mono fun _ _ ⟨a, b⟩ => ⟨a, b.symm⟩)
   have q1 := fun W : World => specHex d1 W (by omega)
   have q2 := fun W : World => specHex d2 W (by omega)
   have l1 := hexN_le d1
   have l2 := hexN_le d2
   generalize hexN d1 = x at HV c1 l1 q1
   generalize hexN d2 = y at HV c2 l2 q2
   have C1 : Hid (∀ n, Calls Tryd.prog 67 #[.int .u8 (d1 : Int)] (w.drewN n) fun e w'' => e = .returned (.int .i64 x) ∧ ∃ m, w'' = w.drewN m) := c1
   have C2 : Hid (∀ n, Calls Tryd.prog 67 #[.int .u8 (d2 : Int)] (w.drewN n) fun e w'' => e = .returned (.int .i64 y) ∧ ∃ m, w'' = w.drewN m) := c2
   have D1 : Hid (∀ W, CS 67 #[.int .u8 (d1 : Int)] W (.int .i64 x)) := q1
   have D2 : Hid (∀ W, CS 67 #[.int .u8 (d2 : Int)] W (.int .i64 y)) := q2
   clear c1 c2 q1 q2
   obtain ⟨l1a, l1b⟩ := l1
   obtain ⟨l2a, l2b⟩ := l2
   by_cases hx : 0 ≤ x
   ·by_cases hy : 0 ≤ y
    ·go_enter Tryd.func37, Tryd.ntmps37
     go_wp2_with fail
     refine (D1.out _).mono ?_
     rintro e w' ⟨rfl, rfl⟩
     go_wp2_with fail
     refine (D2.out _).mono ?_
     rintro e w' ⟨rfl, rfl⟩
     go_wp2_with fail
     go_quiet ((go_at_call 67; first | with_reducible exact C1.out _ | with_reducible exact C2.out _))
     go_wp2
     go_ret
     exact ⟨ret_int (by rw [HV.out, if_pos ⟨hx, hy⟩]), below_drewN (Below.refl _ _) _⟩
    go_enter Tryd.func37, Tryd.ntmps37
    go_wp2_with fail
    refine (D1.out _).mono ?_
    rintro e w' ⟨rfl, rfl⟩
    go_wp2_with fail
    refine (D2.out _).mono ?_
    rintro e w' ⟨rfl, rfl⟩
    go_wp2
    go_ret
    exact ⟨ret_int (by rw [HV.out, if_neg (by omega)]), Below.refl _ _⟩
   go_enter Tryd.func37, Tryd.ntmps37
   go_wp2_with fail
   refine (D1.out _).mono ?_
   rintro e w' ⟨rfl, rfl⟩
   go_wp2
   go_ret
   exact ⟨ret_int (by rw [HV.out, if_neg (by omega)]), Below.refl _ _⟩
  have HV : Hid (pctAt s k = -1) := pctAt_not h2 h37
  obtain ⟨d0, e0⟩ : ∃ d : Nat, s[k].toNat = d := ⟨_, rfl⟩
  have hne : ¬ (d0 : Int) = 37 := by omega
  clear h37
  go_enter Tryd.func37, Tryd.ntmps37
  go_wp2
  go_ret
  exact ⟨ret_int (by rw [HV.out]), Below.refl _ _⟩
 have h2i : (s.size : Int) ≤ (k : Int) + 2 := by omega
 have HV : Hid (pctAt s k = -1) := pctAt_out s k (by omega)
 go_enter Tryd.func37, Tryd.ntmps37
 go_wp2
 go_ret
 exact ⟨ret_int (by rw [HV.out]), Below.refl _ _⟩
theorem own_byte {w1 : World} {B : Nat} {e : TypeId} {v : Value} {o : List UInt8} {x : Int} (c : UInt8) (hx : x = (c.toNat : Int))
  (h : w1.ownsRow B e 1 v (o.length + 1) (bcells o ++ #[Value.int .u8 x].toList)) : w1.ownsRow B e 1 v (o ++ [c]).length (bcells (o ++ [c])) := by
 subst hx
 rw [bcells_snoc, List.length_append]
 exact h
theorem byte_one (x : Int) : ∀ u ∈ #[Value.int .u8 x].toList, u.oneCell' = true := by
 intro u hu; simp at hu; subst hu; rfl
theorem step_append_mine {P : Program} {w : World} {ops : Array Oper} {o : Oper} {a : Act} {K : Act → World → Prop} {Q : Exit → Act → World → Prop} {E : Prop} (hg : o.guard = none) (s x : Operand) (t : TypeId)
  (hop : o.op = .call { callee := .builtin .append, args := #[s, x], argTypes := #[t, t] })
  (B : Nat) (e : TypeId) (z : Value) (bytes : Nat) (ht : P.underlying t = some (.slice e)) (hinfo : (P.info? e).map (fun i => (i.zero, i.size, i.bytes)) = some (some z, 1, bytes)) (hz : z.cells.size = 1)
  (v : Value) (n : Nat) (xs : List Value) (hs : a.eval s = v) (hown : w.ownsRow B e 1 v n xs)
  (ad : Addr) (m c : Nat) (news : List Value) (hx : a.eval x = .slice (some ad) m c) (hl : news.length = m * 1) (hnews : ∀ j u, news[j]? = some u → w.cell? (ad.add j) = some u) (h1 : ∀ u ∈ news, u.oneCell' = true)
  (h63 : n + m ≤ maxLen) (hbytes : (n + m) * bytes ≤ 140737488355328) (hbase : B ≤ w.heap.size)
  (hK : ∀ v' w', w'.ownsRow B e 1 v' (n + m) (xs ++ news) → w.grownBy w' v.ownBlock → K (a.put o.dst v') w') :
  if Region.wanted o (yielded ops a.tmps) = true then Oper.wp P o a w K Q else E := by
 obtain ⟨i0, hi, hz0, hz1, hz2⟩ := info_parts hinfo
 have hw : Region.wanted o (yielded ops a.tmps) = true := by simp [Region.wanted, hg]
 rw [if_pos hw]
 exact wp_append_own w s x t hop B e i0 z 1 bytes ht hi hz0 hz1 hz2 hz (by decide) v n xs hs hown ad m c news hx hl hnews h1 h63 hbytes hbase fun v' w' a b _ => hK v' w' a b
def digits16 : ByteArray := ⟨#[48, 49, 50, 51, 52, 53, 54, 55, 56, 57, 65, 66, 67, 68, 69, 70]⟩
theorem dig_at : ∀ n, (h : n < 16) → (digits16[n]'h).toNat = (digU n).toNat := by decide +kernel
theorem dig_run (P : Program) (t : TypeId) (h : P.underlying t = some .string) (k : IntKind) (n : Nat) (hn : n < 16) (i : Int) (hi : i = (n : Int)) (W : World) :
  (Instr.index t (.string ⟨#[48, 49, 50, 51, 52, 53, 54, 55, 56, 57, 65, 66, 67, 68, 69, 70]⟩) (.int k i)).run P W = .ok (.int .u8 ((digU n).toNat : Int)) W := by
 subst hi
 have hs : (⟨#[48, 49, 50, 51, 52, 53, 54, 55, 56, 57, 65, 66, 67, 68, 69, 70]⟩ : ByteArray).size = 16 := rfl
 rw [run_index_string W t _ k _ h, dif_pos (by omega)]
 simp only [Int.toNat_natCast]
 exact congrArg (fun d : Nat => Result.ok (Value.int .u8 (d : Int)) W) (dig_at n hn)
theorem and15_all : ∀ n : Nat, n < 256 → bits .and .u8 (n : Int) 15 = (n : Int) % 16 := by decide +kernel
theorem own_pct {w1 : World} {B : Nat} {e : TypeId} {v : Value} {o : List UInt8} (c : UInt8) {x y : Int} (hx : x = ((digU (c.toNat / 16)).toNat : Int)) (hy : y = ((digU (c.toNat % 16)).toNat : Int))
  (h : w1.ownsRow B e 1 v (o.length + 3) (bcells o ++ [Value.int .u8 37, .int .u8 x, .int .u8 y])) : w1.ownsRow B e 1 v (o ++ putB c).length (bcells (o ++ putB c)) := by
 subst hx hy
 rw [bcells_append, List.length_append]
 exact h
theorem implAppendPct (c : UInt8) (d : Nat) (hd : c.toNat = d) (v : Value) (o : List UInt8) (B : Nat) (w : World) (hown : w.ownsRow B 5 1 v o.length (bcells o)) (hB : B ≤ w.heap.size) (hl : o.length ≤ 1099511627776) :
  Calls Tryd.prog 54 #[v, .int .u8 (d : Int)] w fun e w' => ∃ v', e = .returned v' ∧ w'.ownsRow B 5 1 v' (o ++ putB c).length (bcells (o ++ putB c)) ∧ Below B w w' := by
 have hd1 : (d : Int) ≤ 255 := by have := c.toNat_lt; omega
 have hd0 : 0 ≤ (d : Int) := by omega
 have hb := and15_all d (by omega)
 have i1 := dig_run Tryd.prog 9 Tryd.underlying9 .u8 (d / 16) (by omega) ((d : Int) / 16) (by omega)
 have i2 := dig_run Tryd.prog 9 Tryd.underlying9 .u8 (d % 16) (by omega) ((d : Int) % 16) (by omega)
 obtain ⟨p, hp⟩ : ∃ p : Int, ((digU (d / 16)).toNat : Int) = p := ⟨_, rfl⟩
 obtain ⟨q, hq⟩ : ∃ q : Int, ((digU (d % 16)).toNat : Int) = q := ⟨_, rfl⟩
 rw [hp] at i1
 rw [hq] at i2
 have HP : Hid (p = ((digU (c.toNat / 16)).toNat : Int)) := by show _ = _; rw [hd, hp]
 have HQ : Hid (q = ((digU (c.toNat % 16)).toNat : Int)) := by show _ = _; rw [hd, hq]
 clear hp hq
 have HA : Hid ((w.alloc (.cells #[.int .u8 37, .int .u8 p, .int .u8 q] 5)).drew.ownsRow B 5 1 v o.length (bcells o)) := hown.alloc _
 have HN : Hid (∀ j u, [Value.int .u8 37, .int .u8 p, .int .u8 q][j]? = some u → (w.alloc (.cells #[.int .u8 37, .int .u8 p, .int .u8 q] 5)).drew.cell? ((⟨w.heap.size, 0, none⟩ : Addr).add j) = some u) := by
  intro j u hj
  show (w.alloc (.cells #[.int .u8 37, .int .u8 p, .int .u8 q] 5)).cell? _ = _
  rw [Addr.add_lit, Nat.zero_add, World.cell?_alloc_at _ _ _ _ rfl]
  simpa using hj
 have H1 : Hid (∀ u ∈ [Value.int .u8 37, .int .u8 p, .int .u8 q], u.oneCell' = true) := by
  intro u hu
  simp at hu
  rcases hu with rfl | rfl | rfl <;> rfl
 have HB : Hid (∀ w1 : World, (w.alloc (.cells #[.int .u8 37, .int .u8 p, .int .u8 q] 5)).drew.grownBy w1 v.ownBlock → Below B w w1) := fun w1 hg =>
  (((Below.refl B w).alloc hB _).drew).grown hg (by simp; omega) (fun k hk => (hown.lt k hk).1)
 have HL : Hid (B ≤ (w.alloc (.cells #[.int .u8 37, .int .u8 p, .int .u8 q] 5)).drew.heap.size) := by show B ≤ _; simp; omega
 go_enter Tryd.func54, Tryd.ntmps54
 go_wp2_with fail
 go_region_law ((refine step_append_mine rfl (.tmp 5) (.tmp 12) 22 rfl B 5 (.int .u8 0) 1 Tryd.underlying22 Tryd.info5 rfl v o.length (bcells o) rfl HA.out ⟨w.heap.size, 0, none⟩ 3 3 [.int .u8 37, .int .u8 p, .int .u8 q] rfl rfl HN.out H1.out (by unfold maxLen; omega) (by omega) HL.out ?_; intro v' w1 hown' hgrow))
 all_goals
  go_wp2
  go_ret
  exact ⟨_, rfl, own_pct c HP.out HQ.out hown', HB.out _ hgrow⟩
theorem specPut (c : UInt8) (d : Nat) (hd : c.toNat = d) (v : Value) (o : List UInt8) (B : Nat) (w : World) (hown : w.ownsRow B 5 1 v o.length (bcells o)) (hB : B ≤ w.heap.size) (hl : o.length ≤ 1099511627776) :
  Calls Tryd.prog 39 #[v, .int .u8 (d : Int)] w fun e w' => ∃ v', e = .returned v' ∧ w'.ownsRow B 5 1 v' (o ++ putB c).length (bcells (o ++ putB c)) ∧ Below B w w' := by
 have hd1 : (d : Int) ≤ 255 := by have := c.toNat_lt; omega
 have hd0 : 0 ≤ (d : Int) := by omega
 have hb := and15_all d (by omega)
 have i1 := dig_run Tryd.prog 9 Tryd.underlying9 .u8 (d / 16) (by omega) ((d : Int) / 16) (by omega)
 have i2 := dig_run Tryd.prog 9 Tryd.underlying9 .u8 (d % 16) (by omega) ((d : Int) % 16) (by omega)
 obtain ⟨p, hp⟩ : ∃ p : Int, ((digU (d / 16)).toNat : Int) = p := ⟨_, rfl⟩
 obtain ⟨q, hq⟩ : ∃ q : Int, ((digU (d % 16)).toNat : Int) = q := ⟨_, rfl⟩
 rw [hp] at i1
 rw [hq] at i2
 have HP : Hid (p = ((digU (c.toNat / 16)).toNat : Int)) := by show _ = _; rw [hd, hp]
 have HQ : Hid (q = ((digU (c.toNat % 16)).toNat : Int)) := by show _ = _; rw [hd, hq]
 clear hp hq
 have HA : Hid ((w.alloc (.cells #[.int .u8 37, .int .u8 p, .int .u8 q] 5)).drew.ownsRow B 5 1 v o.length (bcells o)) := hown.alloc _
 have HN : Hid (∀ j u, [Value.int .u8 37, .int .u8 p, .int .u8 q][j]? = some u → (w.alloc (.cells #[.int .u8 37, .int .u8 p, .int .u8 q] 5)).drew.cell? ((⟨w.heap.size, 0, none⟩ : Addr).add j) = some u) := by
  intro j u hj
  show (w.alloc (.cells #[.int .u8 37, .int .u8 p, .int .u8 q] 5)).cell? _ = _
  rw [Addr.add_lit, Nat.zero_add, World.cell?_alloc_at _ _ _ _ rfl]
  simpa using hj
 have H1 : Hid (∀ u ∈ [Value.int .u8 37, .int .u8 p, .int .u8 q], u.oneCell' = true) := by
  intro u hu
  simp at hu
  rcases hu with rfl | rfl | rfl <;> rfl
 have HB : Hid (∀ w1 : World, (w.alloc (.cells #[.int .u8 37, .int .u8 p, .int .u8 q] 5)).drew.grownBy w1 v.ownBlock → Below B w w1) := fun w1 hg =>
  (((Below.refl B w).alloc hB _).drew).grown hg (by simp; omega) (fun k hk => (hown.lt k hk).1)
 have HL : Hid (B ≤ (w.alloc (.cells #[.int .u8 37, .int .u8 p, .int .u8 q] 5)).drew.heap.size) := by show B ≤ _; simp; omega
 go_enter Tryd.func39, Tryd.ntmps39
 go_wp2_with fail
 go_region_law ((refine step_append_mine rfl (.tmp 5) (.tmp 12) 22 rfl B 5 (.int .u8 0) 1 Tryd.underlying22 Tryd.info5 rfl v o.length (bcells o) rfl HA.out ⟨w.heap.size, 0, none⟩ 3 3 [.int .u8 37, .int .u8 p, .int .u8 q] rfl rfl HN.out H1.out (by unfold maxLen; omega) (by omega) HL.out ?_; intro v' w1 hown' hgrow))
 all_goals
  go_wp2
  go_ret
  exact ⟨_, rfl, own_pct c HP.out HQ.out hown', HB.out _ hgrow⟩
def freeZ (c : Int) : Bool := decide (0 ≤ c) && freeN c.toNat
theorem plain_eq (c : Int) : amongL [45, 46, 95, 126] c = (decide (0 ≤ c) && plainT c.toNat) := by
 rw [Bool.eq_iff_iff]
 simp [amongL, plainT]
 omega
theorem mark_eq (c : Int) : amongL [33, 36, 38, 39, 40, 41, 42, 43, 44, 59, 61, 58, 64] c = (decide (0 ≤ c) && markN c.toNat) := by
 rw [Bool.eq_iff_iff]
 simp [amongL, markN]
 omega
theorem free_eq (c : Int) : freeZ c = (letterZ c || decide (48 ≤ c ∧ c ≤ 57) || amongL [45, 46, 95, 126] c) := by
 rw [plain_eq, Bool.eq_iff_iff]
 simp [freeZ, letterZ, freeN, letterN, digitN, plainT]
 omega
theorem specFree (c : Int) (w : World) : Calls Tryd.prog 38 #[.int .i64 c] w fun e w' => e = .returned (.bool (freeZ c)) ∧ w = w' := by
 have HV : Hid (freeZ c = (letterZ c || decide (48 ≤ c ∧ c ≤ 57) || amongL [45, 46, 95, 126] c)) := free_eq c
 have cl := fun W => specLetter c W
 have ca := fun W => specAmong ⟨#[45, 46, 95, 126]⟩ c W (by decide)
 have CL : Hid (∀ W, CS 61 #[.int .i64 c] W (.bool (letterZ c))) := cl
 have CA : Hid (∀ W, CS 69 #[.string ⟨#[45, 46, 95, 126]⟩, .int .i64 c] W (.bool (amongL [45, 46, 95, 126] c))) := ca
 clear cl ca
 generalize letterZ c = b1 at HV CL
 generalize amongL [45, 46, 95, 126] c = b3 at HV CA
 cases b1 with
 | true =>
  go_enter Tryd.func38, Tryd.ntmps38
  go_wp2_with fail
  refine (CL.out _).mono ?_
  rintro e w' ⟨rfl, rfl⟩
  go_wp2
  go_ret
  exact ⟨ret_bool (by rw [HV.out]; rfl), rfl⟩
 | false =>
  by_cases h2 : 48 ≤ c ∧ c ≤ 57
  ·rw [decide_eq_true h2] at HV
   have H2 : Hid (48 ≤ c ∧ c ≤ 57) := h2
   clear h2
   go_enter Tryd.func38, Tryd.ntmps38
   go_wp2_with fail
   refine (CL.out _).mono ?_
   rintro e w' ⟨rfl, rfl⟩
   go_wp2_with fail
   refine (specL1In_yes _ _ _ _ H2.out.1 H2.out.2).mono ?_
   rintro e w' ⟨rfl, rfl⟩
   go_wp2
   go_ret
   exact ⟨ret_bool (by rw [HV.out]; rfl), rfl⟩
  rw [decide_eq_false h2] at HV
  have H2 : Hid (c < 48 ∨ 57 < c) := by show _ ∨ _; omega
  clear h2
  go_enter Tryd.func38, Tryd.ntmps38
  go_wp2_with fail
  refine (CL.out _).mono ?_
  rintro e w' ⟨rfl, rfl⟩
  go_wp2_with fail
  refine (specL1In_no _ _ _ _ H2.out).mono ?_
  rintro e w' ⟨rfl, rfl⟩
  go_wp2_with fail
  refine (CA.out _).mono ?_
  rintro e w' ⟨rfl, rfl⟩
  go_wp2
  go_ret
  exact ⟨ret_bool (by rw [HV.out]; rfl), rfl⟩
theorem keepZ_eq {set : Int} (h : 1 ≤ set ∧ set ≤ 3) (c : Int) : keepZ set c = (freeZ c || amongL [33, 36, 38, 39, 40, 41, 42, 43, 44, 59, 61, 58, 64] c || (decide (c = 47) && decide (set ≠ 3)) || (decide (c = 63) && decide (set = 2))) := by
 rw [mark_eq]
 unfold keepZ keepN freeZ
 rw [decide_eq_true h]
 by_cases h0 : 0 ≤ c
 ·have e1 : decide (c.toNat = 47) = decide (c = 47) := decide_eq_decide.2 (by omega)
  have e2 : decide (c.toNat = 63) = decide (c = 63) := decide_eq_decide.2 (by omega)
  rw [e1, e2, decide_eq_true h0]
  rfl
 have e1 : decide (c = 47) = false := decide_eq_false (by omega)
 have e2 : decide (c = 63) = false := decide_eq_false (by omega)
 rw [e1, e2, decide_eq_false h0]
 rfl
theorem specKeeps (set c : Int) (w : World) :
  Calls Tryd.prog 40 #[.int .i64 set, .int .i64 c] w fun e w' => e = .returned (.bool (keepZ set c)) ∧ w = w' := by
 by_cases h : 1 ≤ set ∧ set ≤ 3
 ·have HV : Hid (keepZ set c = _) := keepZ_eq h c
  have H1 : Hid (1 ≤ set ∧ set ≤ 3) := h
  clear h
  have cl := fun W => specFree c W
  have ca := fun W => specAmong ⟨#[33, 36, 38, 39, 40, 41, 42, 43, 44, 59, 61, 58, 64]⟩ c W (by decide)
  have CL : Hid (∀ W, CS 38 #[.int .i64 c] W (.bool (freeZ c))) := cl
  have CA : Hid (∀ W, CS 69 #[.string ⟨#[33, 36, 38, 39, 40, 41, 42, 43, 44, 59, 61, 58, 64]⟩, .int .i64 c] W (.bool (amongL [33, 36, 38, 39, 40, 41, 42, 43, 44, 59, 61, 58, 64] c))) := ca
  clear cl ca
  generalize freeZ c = b1 at HV CL
  generalize amongL [33, 36, 38, 39, 40, 41, 42, 43, 44, 59, 61, 58, 64] c = b2 at HV CA
  cases b1 with
  | true =>
   go_enter Tryd.func40, Tryd.ntmps40
   go_wp2_with fail
   refine (specL1In_yes _ _ _ _ H1.out.1 H1.out.2).mono ?_
   rintro e w' ⟨rfl, rfl⟩
   go_wp2_with fail
   refine (CL.out _).mono ?_
   rintro e w' ⟨rfl, rfl⟩
   go_wp2
   go_ret
   exact ⟨ret_bool (by rw [HV.out]; rfl), rfl⟩
  | false =>
   cases b2 with
   | true =>
    go_enter Tryd.func40, Tryd.ntmps40
    go_wp2_with fail
    refine (specL1In_yes _ _ _ _ H1.out.1 H1.out.2).mono ?_
    rintro e w' ⟨rfl, rfl⟩
    go_wp2_with fail
    refine (CL.out _).mono ?_
    rintro e w' ⟨rfl, rfl⟩
    go_wp2_with fail
    refine (CA.out _).mono ?_
    rintro e w' ⟨rfl, rfl⟩
    go_wp2
    go_ret
    exact ⟨ret_bool (by rw [HV.out]; rfl), rfl⟩
   | false =>
    by_cases hs : c = 47
    ·subst hs
     by_cases he : set = 3
     ·subst he
      go_enter Tryd.func40, Tryd.ntmps40
      go_wp2_with fail
      refine (specL1In_yes _ _ _ _ H1.out.1 H1.out.2).mono ?_
      rintro e w' ⟨rfl, rfl⟩
      go_wp2_with fail
      refine (CL.out _).mono ?_
      rintro e w' ⟨rfl, rfl⟩
      go_wp2_with fail
      refine (CA.out _).mono ?_
      rintro e w' ⟨rfl, rfl⟩
      go_wp2
      go_ret
      exact ⟨ret_bool (by first | (rw [HV.out]; simp) | (rw [HV.out]; decide) | decide), rfl⟩
     go_enter Tryd.func40, Tryd.ntmps40
     go_wp2_with fail
     refine (specL1In_yes _ _ _ _ H1.out.1 H1.out.2).mono ?_
     rintro e w' ⟨rfl, rfl⟩
     go_wp2_with fail
     refine (CL.out _).mono ?_
     rintro e w' ⟨rfl, rfl⟩
     go_wp2_with fail
     refine (CA.out _).mono ?_
     rintro e w' ⟨rfl, rfl⟩
     go_wp2
     go_ret
     exact ⟨ret_bool (by first | (rw [HV.out]; simp [he]) | (rw [HV.out]; decide) | decide), rfl⟩
    by_cases hq : c = 63
    ·subst hq
     by_cases he : set = 2
     ·subst he
      go_enter Tryd.func40, Tryd.ntmps40
      go_wp2_with fail
      refine (specL1In_yes _ _ _ _ H1.out.1 H1.out.2).mono ?_
      rintro e w' ⟨rfl, rfl⟩
      go_wp2_with fail
      refine (CL.out _).mono ?_
      rintro e w' ⟨rfl, rfl⟩
      go_wp2_with fail
      refine (CA.out _).mono ?_
      rintro e w' ⟨rfl, rfl⟩
      go_wp2
      go_ret
      exact ⟨ret_bool (by first | (rw [HV.out]; simp) | (rw [HV.out]; decide) | decide), rfl⟩
     go_enter Tryd.func40, Tryd.ntmps40
     go_wp2_with fail
     refine (specL1In_yes _ _ _ _ H1.out.1 H1.out.2).mono ?_
     rintro e w' ⟨rfl, rfl⟩
     go_wp2_with fail
     refine (CL.out _).mono ?_
     rintro e w' ⟨rfl, rfl⟩
     go_wp2_with fail
     refine (CA.out _).mono ?_
     rintro e w' ⟨rfl, rfl⟩
     go_wp2
     go_ret
     exact ⟨ret_bool (by first | (rw [HV.out]; simp [he]) | (rw [HV.out]; decide) | decide), rfl⟩
    go_enter Tryd.func40, Tryd.ntmps40
    go_wp2_with fail
    refine (specL1In_yes _ _ _ _ H1.out.1 H1.out.2).mono ?_
    rintro e w' ⟨rfl, rfl⟩
    go_wp2_with fail
    refine (CL.out _).mono ?_
    rintro e w' ⟨rfl, rfl⟩
    go_wp2_with fail
    refine (CA.out _).mono ?_
    rintro e w' ⟨rfl, rfl⟩
    go_wp2
    go_ret
    exact ⟨ret_bool (by first | (rw [HV.out]; simp [hs, hq]) | (rw [HV.out]; decide) | decide), rfl⟩
 have HV : Hid (keepZ set c = false) := keepZ_out c h
 have H1 : Hid (set < 1 ∨ 3 < set) := by show _ ∨ _; omega
 clear h
 go_enter Tryd.func40, Tryd.ntmps40
 go_wp2_with fail
 refine (specL1In_no _ _ _ _ H1.out).mono ?_
 rintro e w' ⟨rfl, rfl⟩
 go_wp2
 go_ret
 exact ⟨ret_bool (by rw [HV.out]), rfl⟩
theorem kept_yes {set : Int} {c : UInt8} (h : keepN set c.toNat = true) : keptB set c = [c] := by unfold keptB; rw [h]; rfl
theorem kept_no {set : Int} {c : UInt8} (h : keepN set c.toNat = false) : keptB set c = putB c := by unfold keptB; rw [h]; rfl
theorem implAppendKept (c : UInt8) (d : Nat) (hd : c.toNat = d) (set : Int) (v : Value) (o : List UInt8) (B : Nat) (w : World) (hM : Marks w) (hown : w.ownsRow B 5 1 v o.length (bcells o)) (hB : B ≤ w.heap.size) (hl : o.length ≤ 1099511627776) :
  Calls Tryd.prog 52 #[v, .int .u8 (d : Int), .int .i64 set] w fun e w' => ∃ v', e = .returned v' ∧ w'.ownsRow B 5 1 v' (o ++ keptB set c).length (bcells (o ++ keptB set c)) ∧ Below B w w' := by
 have hd1 : (d : Int) ≤ 255 := by have := c.toNat_lt; omega
 have hd0 : 0 ≤ (d : Int) := by omega
 have ck := implKeeps set (d : Int) w hM
 rw [keepZ_nat] at ck
 cases hk : keepN set d with
 | true =>
  have HK : Hid (keptB set c = [c]) := kept_yes (by rw [hd]; exact hk)
  have HD : Hid ((d : Int) = (c.toNat : Int)) := by show _ = _; rw [hd]
  rw [hk] at ck
  have CK : Hid (CS 77 #[.int .i64 set, .int .i64 (d : Int)] w (.bool true)) := ck
  clear ck hk hd hM
  go_enter Tryd.func52, Tryd.ntmps52
  go_wp2_with fail
  refine CK.out.mono ?_
  rintro e w' ⟨rfl, rfl⟩
  go_wp2_with (at_builtin; refine wpList_append_new _ rfl _ _ 22 rfl B 5 (.int .u8 0) 1 Tryd.underlying22 Tryd.info5 rfl _ _ _ rfl hown #[.int .u8 (d : Int)] 1 rfl rfl (byte_one _) (by omega) (by unfold maxLen; omega) (by omega) ?_)
  intro v' w1 hown' hb1
  have R := own_byte c HD.out hown'
  clear hown'
  go_wp2
  go_ret
  exact ⟨_, rfl, by rw [HK.out]; exact R, hb1⟩
 | false =>
  have HK : Hid (keptB set c = putB c) := kept_no (by rw [hd]; exact hk)
  have HD : Hid (c.toNat = d) := hd
  rw [hk] at ck
  have CK : Hid (CS 77 #[.int .i64 set, .int .i64 (d : Int)] w (.bool false)) := ck
  clear ck hk hd hM
  go_enter Tryd.func52, Tryd.ntmps52
  go_wp2_with fail
  refine CK.out.mono ?_
  rintro e w' ⟨rfl, rfl⟩
  go_wp2_with fail
  refine (implAppendPct c d HD.out _ o B _ hown hB hl).mono ?_
  rintro e w1 ⟨v', rfl, hown', hb1⟩
  go_wp2
  go_ret
  exact ⟨_, rfl, by rw [HK.out]; exact hown', hb1⟩
end Go.Proofs.YtjdnemjcjodboaaDoor
