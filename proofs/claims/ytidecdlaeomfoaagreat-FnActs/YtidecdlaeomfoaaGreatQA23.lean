/- UnWalk, PutPct, PercentWalk, PlainlyWalk, DotSpec, KeepBox. -/
import Derived.Test.YtidecdlaeomfoaaGreatQA22
import Derived.Deep.RegionLaw
set_option maxHeartbeats 4000000
namespace Go.Proofs.YtidecdlaeomfoaaGreat
open Go.RowKit
theorem own_byte {w1 : World} {B : Nat} {e : TypeId} {v : Value} {o : List UInt8} {x : Int} (c : UInt8) (hx : x = (c.toNat : Int))
  (h : w1.ownsRow B e 1 v (o.length + 1) (bcells o ++ #[Value.int .u8 x].toList)) : w1.ownsRow B e 1 v (o ++ [c]).length (bcells (o ++ [c])) := by
 subst hx
 rw [bcells_snoc, List.length_append]
 exact h
theorem byte_one (x : Int) : ∀ u ∈ #[Value.int .u8 x].toList, u.oneCell' = true := by
 intro u hu; simp at hu; subst hu; rfl
theorem ofNat_pct {c : Int} (h0 : 0 ≤ c) (h1 : c ≤ 255) : c = ((UInt8.ofNat c.toNat).toNat : Int) := by
 have : (UInt8.ofNat c.toNat).toNat = c.toNat % 256 := by simp
 omega
theorem un_hit (s : ByteArray) (k : Nat) (o : List UInt8) (h : 0 ≤ pctAt s k) (he : o ++ unL (s.data.toList.drop k) = unL s.data.toList) :
  (o ++ [UInt8.ofNat (pctAt s k).toNat]) ++ unL (s.data.toList.drop (k + 3)) = unL s.data.toList := by
 rw [← he]
 unfold unL
 rw [tok_hit _ _ s k h]
 simp
theorem un_miss (s : ByteArray) (k : Nat) (hk : k < s.size) (o : List UInt8) (h : pctAt s k < 0) (he : o ++ unL (s.data.toList.drop k) = unL s.data.toList) :
  (o ++ [s[k]]) ++ unL (s.data.toList.drop (k + 1)) = unL s.data.toList := by
 rw [← he]
 unfold unL
 rw [tok_miss _ _ s k hk h]
 simp
theorem un_end (s : ByteArray) (k : Nat) (hk : s.size ≤ k) (o : List UInt8) (he : o ++ unL (s.data.toList.drop k) = unL s.data.toList) : o = unL s.data.toList := by
 rw [← he]
 unfold unL
 rw [tok_end _ _ s k hk]
 simp
theorem specUnpercent (s : ByteArray) (w : World) (hs : s.size ≤ 1099511627776) :
  Calls Tryz.prog 60 #[.string s] w fun e w' => e = .returned (.string ⟨(unL s.data.toList).toArray⟩) ∧ Below w.heap.size w w' := by
 go_enter Tryz.func60, Tryz.ntmps60
 go_wp2
 go_loopw [3, 4] (fun v i wr => ∃ (k : Nat) (o : List UInt8), k ≤ s.size ∧ i = .int .i64 k ∧ o.length ≤ k ∧ wr.ownsRow w.heap.size 5 1 v o.length (bcells o) ∧ o ++ unL (s.data.toList.drop k) = unL s.data.toList ∧ Below w.heap.size w wr)
  (fun _ i _ => s.size - (intOf i).toNat)
 case atStart => exact ⟨0, [], Nat.zero_le _, rfl, Nat.zero_le _, World.ownsRow_lit w #[] 0 (Nat.le_refl _) (by decide) rfl, rfl, (Below.refl _ _).alloc (Nat.le_refl _) _⟩
 obtain ⟨k, o, hk, rfl, hol, hown, he, hbel⟩ := hrel
 have HE : Hid (o ++ unL (s.data.toList.drop k) = unL s.data.toList) := he
 clear he
 have hsz := hbel.size
 by_cases hlt : k < s.size
 ·have hct := fun W => specByte s k W hlt hs
  have hcl := pctAt_le s k
  by_cases hc : 0 ≤ pctAt s k
  ·have HN : Hid ((o ++ [UInt8.ofNat (pctAt s k).toNat]) ++ unL (s.data.toList.drop (k + 3)) = unL s.data.toList) := un_hit s k o hc HE.out
   have hk3 := pctAt_lt hc
   generalize pctAt s k = c at hct hcl hc HN
   obtain ⟨hc0, hc1⟩ := hcl
   have HC : Hid (∀ W, CB 76 #[.string s, .int .i64 (k : Int)] W (.int .i64 c)) := hct
   clear hct
   go_wp2_with fail
   refine (HC.out _).mono ?_
   rintro e wb ⟨rfl, bb⟩
   have ob := own_below hown bb
   have hsb := bb.size
   go_wp2_with (at_builtin; refine wpList_append_new _ rfl _ _ 22 rfl w.heap.size 5 (.int .u8 0) 1 Tryz.underlying22 Tryz.info5 rfl _ _ _ rfl ob #[.int .u8 c] 1 rfl rfl (byte_one _) (by omega) (by unfold maxLen; omega) (by omega) ?_)
   intro v' w1 hown' hb1
   have R := own_byte _ (ofNat_pct hc hc1) hown'
   have B1 : Below w.heap.size w w1 := (hbel.trans (bb.mono hsz)).trans hb1
   clear hown' hb1 hown hbel ob bb
   go_wp2
   go_roundw
   case rel => exact ⟨k + 3, _, by omega, by go_num, by simp; omega, R, HN.out, B1⟩
   case measure => simp [intOf]; omega
  have HN : Hid ((o ++ [s[k]]) ++ unL (s.data.toList.drop (k + 1)) = unL s.data.toList) := un_miss s k hlt o (by omega) HE.out
  generalize pctAt s k = c at hct hcl hc
  obtain ⟨hc0, hc1⟩ := hcl
  have HC : Hid (∀ W, CB 76 #[.string s, .int .i64 (k : Int)] W (.int .i64 c)) := hct
  clear hct
  go_wp2_with fail
  refine (HC.out _).mono ?_
  rintro e wb ⟨rfl, bb⟩
  have ob := own_below hown bb
  have hsb := bb.size
  go_wp2_with (at_builtin; refine wpList_append_new _ rfl _ _ 22 rfl w.heap.size 5 (.int .u8 0) 1 Tryz.underlying22 Tryz.info5 rfl _ _ _ rfl ob #[.int .u8 (s[k].toNat : Int)] 1 rfl rfl (byte_one _) (by omega) (by unfold maxLen; omega) (by omega) ?_)
  intro v' w1 hown' hb1
  have R := own_byte s[k] rfl hown'
  have B1 : Below w.heap.size w w1 := (hbel.trans (bb.mono hsz)).trans hb1
  clear hown' hb1 hown hbel ob bb
  go_wp2
  go_roundw
  case rel => exact ⟨k + 1, _, by omega, by go_num, by simp; omega, R, HN.out, B1⟩
  case measure => simp [intOf]; omega
 have HO := run_string_own (P := Tryz.prog) wr 22 9 5 Tryz.underlying22 Tryz.underlying5 Tryz.underlying9 hown
 go_wp2
 go_ret
 exact ⟨ret_str (un_end s k (by omega) o HE.out), hbel⟩
theorem step_append_mine {P : Program} {w : World} {ops : Array Oper} {o : Oper} {a : Act} {K : Act → World → Prop} {Q : Exit → Act → World → Prop} {E : Prop} (hg : o.guard = none) (s x : Operand) (t : TypeId)
  (hop : o.op = .call { callee := .builtin .append, args := #[s, x], argTypes := #[t, t] })
  (B : Nat) (e : TypeId) (z : Value) (bytes : Nat) (ht : P.underlying t = some (.slice e)) (hinfo : (P.info? e).map (fun i => (i.zero, i.size, i.bytes)) = some (some z, 1, bytes)) (hz : z.cells.size = 1)
  (v : Value) (n : Nat) (xs : List Value) (hs : a.eval s = v) (hown : w.ownsRow B e 1 v n xs)
  (ad : Addr) (m c : Nat) (news : List Value) (hx : a.eval x = .slice (some ad) m c) (hl : news.length = m * 1) (hnews : ∀ j u, news[j]? = some u → w.cell? (ad.add j) = some u) (h1 : ∀ u ∈ news, u.oneCell' = true)
  (h63 : n + m ≤ maxLen) (hbytes : (n + m) * bytes ≤ 140737488355328) (hbase : B ≤ w.heap.size)
  (hK : ∀ v' w', w'.ownsRow B e 1 v' (n + m) (xs ++ news) → w.grownBy w' v.ownBlock → K (a.put o.dst v') w') :
  if Region.wanted o (yielded ops a.tmps) = true then Oper.wp P o a w K Q else E := by
 obtain ⟨i0, hi, hz0, hz1, hz2⟩ := info_parts hinfo
 have hw : Region.wanted o (yielded ops a.tmps) = true := by simp [Region.wanted, hg]
 rw [if_pos hw]
 exact wp_append_own w s x t hop B e i0 z 1 bytes ht hi hz0 hz1 hz2 hz (by decide) v n xs hs hown ad m c news hx hl hnews h1 h63 hbytes hbase fun v' w' a b _ => hK v' w' a b
def digits16 : ByteArray := ⟨#[48, 49, 50, 51, 52, 53, 54, 55, 56, 57, 65, 66, 67, 68, 69, 70]⟩
theorem dig_at : ∀ n, (h : n < 16) → (digits16[n]'h).toNat = (digU n).toNat := by decide +kernel
theorem dig_run (P : Program) (t : TypeId) (h : P.underlying t = some .string) (k : IntKind) (n : Nat) (hn : n < 16) (i : Int) (hi : i = (n : Int)) (W : World) :
  (Instr.index t (.string ⟨#[48, 49, 50, 51, 52, 53, 54, 55, 56, 57, 65, 66, 67, 68, 69, 70]⟩) (.int k i)).run P W = .ok (.int .u8 ((digU n).toNat : Int)) W := by
 subst hi
 have hs : (⟨#[48, 49, 50, 51, 52, 53, 54, 55, 56, 57, 65, 66, 67, 68, 69, 70]⟩ : ByteArray).size = 16 := rfl
 rw [run_index_string W t _ k _ h, dif_pos (by omega)]
 simp only [Int.toNat_natCast]
 exact congrArg (fun d : Nat => Result.ok (Value.int .u8 (d : Int)) W) (dig_at n hn)
theorem and15_all : ∀ n : Nat, n < 256 → bits .and .u8 (n : Int) 15 = (n : Int) % 16 := by decide +kernel
theorem own_pct {w1 : World} {B : Nat} {e : TypeId} {v : Value} {o : List UInt8} (c : UInt8) {x y : Int} (hx : x = ((digU (c.toNat / 16)).toNat : Int)) (hy : y = ((digU (c.toNat % 16)).toNat : Int))
  (h : w1.ownsRow B e 1 v (o.length + 3) (bcells o ++ [Value.int .u8 37, .int .u8 x, .int .u8 y])) : w1.ownsRow B e 1 v (o ++ putB c).length (bcells (o ++ putB c)) := by
 subst hx hy
 rw [bcells_append, List.length_append]
 exact h
theorem specPut (c : UInt8) (d : Nat) (hd : c.toNat = d) (v : Value) (o : List UInt8) (B : Nat) (w : World) (hown : w.ownsRow B 5 1 v o.length (bcells o)) (hB : B ≤ w.heap.size) (hl : o.length ≤ 1099511627776) :
  Calls Tryz.prog 80 #[v, .int .u8 (d : Int)] w fun e w' => ∃ v', e = .returned v' ∧ w'.ownsRow B 5 1 v' (o ++ putB c).length (bcells (o ++ putB c)) ∧ Below B w w' := by
 have hd1 : (d : Int) ≤ 255 := by have := c.toNat_lt; omega
 have hd0 : 0 ≤ (d : Int) := by omega
 have hb := and15_all d (by omega)
 have i1 := dig_run Tryz.prog 9 Tryz.underlying9 .u8 (d / 16) (by omega) ((d : Int) / 16) (by omega)
 have i2 := dig_run Tryz.prog 9 Tryz.underlying9 .u8 (d % 16) (by omega) ((d : Int) % 16) (by omega)
 obtain ⟨p, hp⟩ : ∃ p : Int, ((digU (d / 16)).toNat : Int) = p := ⟨_, rfl⟩
 obtain ⟨q, hq⟩ : ∃ q : Int, ((digU (d % 16)).toNat : Int) = q := ⟨_, rfl⟩
 rw [hp] at i1
 rw [hq] at i2
 have HP : Hid (p = ((digU (c.toNat / 16)).toNat : Int)) := by show _ = _; rw [hd, hp]
 have HQ : Hid (q = ((digU (c.toNat % 16)).toNat : Int)) := by show _ = _; rw [hd, hq]
 clear hp hq
 have HA : Hid ((w.alloc (.cells #[.int .u8 37, .int .u8 p, .int .u8 q] 5)).drew.ownsRow B 5 1 v o.length (bcells o)) := hown.alloc _
 have HN : Hid (∀ j u, [Value.int .u8 37, .int .u8 p, .int .u8 q][j]? = some u → (w.alloc (.cells #[.int .u8 37, .int .u8 p, .int .u8 q] 5)).drew.cell? ((⟨w.heap.size, 0, none⟩ : Addr).add j) = some u) := by
  intro j u hj
  show (w.alloc (.cells #[.int .u8 37, .int .u8 p, .int .u8 q] 5)).cell? _ = _
  rw [Addr.add_lit, Nat.zero_add, World.cell?_alloc_at _ _ _ _ rfl]
  simpa using hj
 have H1 : Hid (∀ u ∈ [Value.int .u8 37, .int .u8 p, .int .u8 q], u.oneCell' = true) := by
  intro u hu
  simp at hu
  rcases hu with rfl | rfl | rfl <;> rfl
 have HB : Hid (∀ w1 : World, (w.alloc (.cells #[.int .u8 37, .int .u8 p, .int .u8 q] 5)).drew.grownBy w1 v.ownBlock → Below B w w1) := fun w1 hg =>
  (((Below.refl B w).alloc hB _).drew).grown hg (by simp; omega) (fun k hk => (hown.lt k hk).1)
 have HL : Hid (B ≤ (w.alloc (.cells #[.int .u8 37, .int .u8 p, .int .u8 q] 5)).drew.heap.size) := by show B ≤ _; simp; omega
 go_enter Tryz.func80, Tryz.ntmps80
 go_wp2_with fail
 go_region_law ((refine step_append_mine rfl (.tmp 5) (.tmp 12) 22 rfl B 5 (.int .u8 0) 1 Tryz.underlying22 Tryz.info5 rfl v o.length (bcells o) rfl HA.out ⟨w.heap.size, 0, none⟩ 3 3 [.int .u8 37, .int .u8 p, .int .u8 q] rfl rfl HN.out H1.out (by unfold maxLen; omega) (by omega) HL.out ?_; intro v' w1 hown' hgrow))
 all_goals
  go_wp2
  go_ret
  exact ⟨_, rfl, own_pct c HP.out HQ.out hown', HB.out _ hgrow⟩
theorem kept_yes {set : Int} {c : UInt8} (h : keepN set c.toNat = true) : keptB set c = [c] := by unfold keptB; rw [h]; rfl
theorem kept_no {set : Int} {c : UInt8} (h : keepN set c.toNat = false) : keptB set c = putB c := by unfold keptB; rw [h]; rfl
theorem pl_hit (set : Int) (s : ByteArray) (k n : Nat) (h : pctAt s k = (n : Int)) (o : List UInt8) (he : o ++ plL set (s.data.toList.drop k) = plL set s.data.toList) :
  (o ++ freeB (UInt8.ofNat n)) ++ plL set (s.data.toList.drop (k + 3)) = plL set s.data.toList := by
 rw [← he]
 unfold plL
 rw [tok_hit _ _ s k (by omega), h, List.append_assoc]
 rfl
theorem pl_miss (set : Int) (s : ByteArray) (k : Nat) (hk : k < s.size) (o : List UInt8) (h : pctAt s k < 0) (he : o ++ plL set (s.data.toList.drop k) = plL set s.data.toList) :
  (o ++ keptB set s[k]) ++ plL set (s.data.toList.drop (k + 1)) = plL set s.data.toList := by
 rw [← he]
 unfold plL
 rw [tok_miss _ _ s k hk h, List.append_assoc]
theorem pl_end (set : Int) (s : ByteArray) (k : Nat) (hk : s.size ≤ k) (o : List UInt8) (he : o ++ plL set (s.data.toList.drop k) = plL set s.data.toList) : o = plL set s.data.toList := by
 rw [← he]
 unfold plL
 rw [tok_end _ _ s k hk]
 simp
theorem freeZ_nat (n : Nat) : freeZ (n : Int) = freeN n := by simp [freeZ]
theorem specPlainly (s : ByteArray) (set : Int) (w : World) (hs : s.size ≤ 4294967296) :
  Calls Tryz.prog 64 #[.string s, .int .i64 set] w fun e w' => e = .returned (.string ⟨(plL set s.data.toList).toArray⟩) ∧ Below w.heap.size w w' := by
 go_enter Tryz.func64, Tryz.ntmps64
 go_wp2
 go_loopw [5, 6] (fun v i wr => ∃ (k : Nat) (o : List UInt8), k ≤ s.size ∧ i = .int .i64 k ∧ o.length ≤ 3 * k ∧ wr.ownsRow w.heap.size 5 1 v o.length (bcells o) ∧ o ++ plL set (s.data.toList.drop k) = plL set s.data.toList ∧ Below w.heap.size w wr)
  (fun _ i _ => s.size - (intOf i).toNat)
 case atStart => exact ⟨0, [], Nat.zero_le _, rfl, Nat.zero_le _, World.ownsRow_lit w #[] 0 (Nat.le_refl _) (by decide) rfl, rfl, (Below.refl _ _).alloc (Nat.le_refl _) _⟩
 obtain ⟨k, o, hk, rfl, hol, hown, he, hbel⟩ := hrel
 have HE : Hid (o ++ plL set (s.data.toList.drop k) = plL set s.data.toList) := he
 clear he
 have hsz := hbel.size
 by_cases hlt : k < s.size
 ·have hct := fun W => specByte s k W hlt (by omega)
  have hcl := pctAt_le s k
  by_cases hc : 0 ≤ pctAt s k
  ·obtain ⟨n, hn⟩ := Int.eq_ofNat_of_zero_le hc
   have hk3 := pctAt_lt hc
   have HN : Hid ((o ++ freeB (UInt8.ofNat n)) ++ plL set (s.data.toList.drop (k + 3)) = plL set s.data.toList) := pl_hit set s k n hn o HE.out
   have HT : Hid ((UInt8.ofNat n).toNat = n) := by show _ = _; simp; omega
   have HF : Hid (freeB (UInt8.ofNat n) = if freeN n then [UInt8.ofNat n] else putB (UInt8.ofNat n)) := by show _ = _; unfold freeB; rw [HT.out]
   rw [hn] at hct hcl
   have hn1 : (n : Int) ≤ 255 := hcl.2
   have hn0 : 0 ≤ (n : Int) := by omega
   have HC : Hid (∀ W, CB 76 #[.string s, .int .i64 (k : Int)] W (.int .i64 (n : Int))) := hct
   clear hct hcl hc hn
   cases hf : freeN n with
   | true =>
    rw [hf, if_pos rfl] at HF
    rw [HF.out] at HN
    have ckk := fun (W : World) (_ : Below w.heap.size w W) => specFree (n : Int) W
    simp only [freeZ_nat, hf] at ckk
    have CK : Hid (∀ W, Below w.heap.size w W → CS 79 #[.int .i64 (n : Int)] W (.bool true)) := ckk
    have HX : Hid ((n : Int) = ((UInt8.ofNat n).toNat : Int)) := by show _ = _; rw [HT.out]
    clear ckk hf HF
    generalize UInt8.ofNat n = u at HN HT HX
    go_wp2_with fail
    refine (HC.out _).mono ?_
    rintro e wb ⟨rfl, bb⟩
    have ob := own_below hown bb
    have hsb := bb.size
    have Bb : Below w.heap.size w wb := hbel.trans (bb.mono hsz)
    clear bb hbel hown
    go_wp2_with fail
    refine (CK.out _ Bb).mono ?_
    rintro e w' ⟨rfl, rfl⟩
    go_wp2_with (at_builtin; refine wpList_append_new _ rfl _ _ 22 rfl w.heap.size 5 (.int .u8 0) 1 Tryz.underlying22 Tryz.info5 rfl _ _ _ rfl ob #[.int .u8 (n : Int)] 1 rfl rfl (byte_one _) (by omega) (by unfold maxLen; omega) (by omega) ?_)
    intro v' w1 hown' hb1
    have R := own_byte u HX.out hown'
    have B1 : Below w.heap.size w w1 := Bb.trans hb1
    clear hown' hb1 ob Bb
    go_wp2
    go_roundw
    case rel => exact ⟨k + 3, _, by omega, by go_num, by simp; omega, R, HN.out, B1⟩
    case measure => simp [intOf]; omega
   | false =>
    rw [hf, if_neg (by decide)] at HF
    rw [HF.out] at HN
    have ckk := fun (W : World) (_ : Below w.heap.size w W) => specFree (n : Int) W
    simp only [freeZ_nat, hf] at ckk
    have CK : Hid (∀ W, Below w.heap.size w W → CS 79 #[.int .i64 (n : Int)] W (.bool false)) := ckk
    clear ckk hf HF
    generalize UInt8.ofNat n = u at HN HT
    go_wp2_with fail
    refine (HC.out _).mono ?_
    rintro e wb ⟨rfl, bb⟩
    have ob := own_below hown bb
    have hsb := bb.size
    have Bb : Below w.heap.size w wb := hbel.trans (bb.mono hsz)
    clear bb hbel hown
    go_wp2_with fail
    refine (CK.out _ Bb).mono ?_
    rintro e w' ⟨rfl, rfl⟩
    go_wp2_with fail
    refine (specPut u n HT.out _ o w.heap.size _ ob (by omega) (by omega)).mono ?_
    rintro e w1 ⟨v', rfl, hown', hb1⟩
    have B1 : Below w.heap.size w w1 := Bb.trans hb1
    clear hb1 ob Bb
    go_wp2
    go_roundw
    case rel => exact ⟨k + 3, _, by omega, by go_num, by simp [putB]; omega, hown', HN.out, B1⟩
    case measure => simp [intOf]; omega
  have HN : Hid ((o ++ keptB set s[k]) ++ plL set (s.data.toList.drop (k + 1)) = plL set s.data.toList) := pl_miss set s k hlt o (by omega) HE.out
  obtain ⟨d, hd⟩ : ∃ d : Nat, s[k].toNat = d := ⟨_, rfl⟩
  have hd1 : (d : Int) ≤ 255 := by have := s[k].toNat_lt; omega
  have hd0 : 0 ≤ (d : Int) := by omega
  have HD : Hid (s[k].toNat = d) := hd
  have hkl := kept_len set s[k]
  generalize pctAt s k = c at hct hcl hc
  obtain ⟨hc0, hc1⟩ := hcl
  have HC : Hid (∀ W, CB 76 #[.string s, .int .i64 (k : Int)] W (.int .i64 c)) := hct
  clear hct
  have ckk := fun W => specKeeps set (d : Int) W
  simp only [keepZ_nat] at ckk
  cases hkp : keepN set d with
  | true =>
   rw [kept_yes (show keepN set s[k].toNat = true by rw [hd]; exact hkp)] at HN hkl
   rw [hkp] at ckk
   have CK : Hid (∀ W, CS 81 #[.int .i64 set, .int .i64 (d : Int)] W (.bool true)) := ckk
   have HX : Hid ((d : Int) = (s[k].toNat : Int)) := by show _ = _; rw [hd]
   clear ckk hkp
   go_wp2_with fail
   refine (HC.out _).mono ?_
   rintro e wb ⟨rfl, bb⟩
   have ob := own_below hown bb
   have hsb := bb.size
   have Bb : Below w.heap.size w wb := hbel.trans (bb.mono hsz)
   clear bb hbel hown
   go_wp2_with fail
   refine (CK.out _).mono ?_
   rintro e w' ⟨rfl, rfl⟩
   go_wp2_with (at_builtin; refine wpList_append_new _ rfl _ _ 22 rfl w.heap.size 5 (.int .u8 0) 1 Tryz.underlying22 Tryz.info5 rfl _ _ _ rfl ob #[.int .u8 (d : Int)] 1 rfl rfl (byte_one _) (by omega) (by unfold maxLen; omega) (by omega) ?_)
   intro v' w1 hown' hb1
   have R := own_byte s[k] HX.out hown'
   have B1 : Below w.heap.size w w1 := Bb.trans hb1
   clear hown' hb1 ob Bb
   go_wp2
   go_roundw
   case rel => exact ⟨k + 1, _, by omega, by go_num, by simp; omega, R, HN.out, B1⟩
   case measure => simp [intOf]; omega
  | false =>
   rw [kept_no (show keepN set s[k].toNat = false by rw [hd]; exact hkp)] at HN hkl
   rw [hkp] at ckk
   have CK : Hid (∀ W, CS 81 #[.int .i64 set, .int .i64 (d : Int)] W (.bool false)) := ckk
   clear ckk hkp
   go_wp2_with fail
   refine (HC.out _).mono ?_
   rintro e wb ⟨rfl, bb⟩
   have ob := own_below hown bb
   have hsb := bb.size
   have Bb : Below w.heap.size w wb := hbel.trans (bb.mono hsz)
   clear bb hbel hown
   go_wp2_with fail
   refine (CK.out _).mono ?_
   rintro e w' ⟨rfl, rfl⟩
   go_wp2_with fail
   refine (specPut s[k] d HD.out _ o w.heap.size _ ob (by omega) (by omega)).mono ?_
   rintro e w1 ⟨v', rfl, hown', hb1⟩
   have B1 : Below w.heap.size w w1 := Bb.trans hb1
   clear hb1 ob Bb
   go_wp2
   go_roundw
   case rel => exact ⟨k + 1, _, by omega, by go_num, by simp [putB]; omega, hown', HN.out, B1⟩
   case measure => simp [intOf]; omega
 have HO := run_string_own (P := Tryz.prog) wr 22 9 5 Tryz.underlying22 Tryz.underlying5 Tryz.underlying9 hown
 go_wp2
 go_ret
 exact ⟨ret_str (pl_end set s k (by omega) o HE.out), hbel⟩
def dotA (n : Int) : Int := if 1 ≤ n ∧ n ≤ 2 then n else 0
theorem dotA_end {s : ByteArray} {k n : Nat} (hk : s.size ≤ k) (he : unL s.data.toList = List.replicate n 46 ++ unL (s.data.toList.drop k)) : (isd s.data.toList : Int) = dotA (n : Int) := by
 rw [dot_end hk he]
 unfold dotA
 by_cases h : 1 ≤ n ∧ n ≤ 2
 ·rw [if_pos h, if_pos (by omega)]
 rw [if_neg h, if_neg (by omega)]; rfl
theorem dotA_out {l : List UInt8} (h : isd l = 0) : (isd l : Int) = dotA (-1) := by rw [h]; rfl
theorem specL7Dots (s : ByteArray) (w : World) (hs : s.size ≤ 16777216) :
  Calls Tryz.prog 94 #[.string s] w fun e w' => ∃ n : Int, e = .returned (.int .i64 n) ∧ -1 ≤ n ∧ n ≤ 16777216 ∧ (isd s.data.toList : Int) = dotA n ∧ w = w' := by
 go_enter Tryz.func94, Tryz.ntmps94
 go_wp2
 go_loop [3, 4] (fun n i => ∃ k m : Nat, k ≤ s.size ∧ i = .int .i64 k ∧ n = .int .i64 m ∧ m ≤ k ∧ unL s.data.toList = List.replicate m 46 ++ unL (s.data.toList.drop k))
  (fun _ i => s.size - (intOf i).toNat)
 case atStart => exact ⟨0, 0, Nat.zero_le _, rfl, rfl, Nat.le_refl _, rfl⟩
 obtain ⟨k, m, hk, rfl, rfl, hm, he⟩ := hrel
 have HE : Hid (unL s.data.toList = List.replicate m 46 ++ unL (s.data.toList.drop k)) := he
 clear he
 by_cases hlt : k < s.size
 ·by_cases h46 : s[k].toNat = 46
  ·have HN : Hid (unL s.data.toList = List.replicate (m + 1) 46 ++ unL (s.data.toList.drop (k + 1))) := dot_hit hlt h46 HE.out
   go_wp2
   go_round
   case rel => exact ⟨k + 1, m + 1, by omega, by go_num, by go_num, by omega, HN.out⟩
   case measure => simp [intOf]; omega
  by_cases h2 : k + 2 < s.size
  ·obtain ⟨d1, e1⟩ : ∃ d : Nat, s[k + 1].toNat = d := ⟨_, rfl⟩
   obtain ⟨d2, e2⟩ : ∃ d : Nat, s[k + 2].toNat = d := ⟨_, rfl⟩
   have i1 := run_at Tryz.prog 9 Tryz.underlying9 s ((k : Int) + 1) (k + 1) d1 (by omega) (by omega) e1
   have i2 := run_at Tryz.prog 9 Tryz.underlying9 s ((k : Int) + 2) (k + 2) d2 (by omega) (by omega) e2
   by_cases h37 : s[k].toNat = 37
   ·by_cases h50 : d1 = 50
    ·by_cases he1 : d2 = 101
     ·have HN : Hid (unL s.data.toList = List.replicate (m + 1) 46 ++ unL (s.data.toList.drop (k + 3))) := dot_pct h2 h37 (by omega) (by omega) HE.out
      go_wp2
      go_round
      case rel => exact ⟨k + 3, m + 1, by omega, by go_num, by go_num, by omega, HN.out⟩
      case measure => simp [intOf]; omega
     by_cases he2 : d2 = 69
     ·have HN : Hid (unL s.data.toList = List.replicate (m + 1) 46 ++ unL (s.data.toList.drop (k + 3))) := dot_pct h2 h37 (by omega) (by omega) HE.out
      go_wp2
      go_round
      case rel => exact ⟨k + 3, m + 1, by omega, by go_num, by go_num, by omega, HN.out⟩
      case measure => simp [intOf]; omega
     have q1 : ((d2 : Int) == 101) = false := by rw [beq_eq_false_iff_ne]; omega
     have q2 : ((d2 : Int) == 69) = false := by rw [beq_eq_false_iff_ne]; omega
     have HO : Hid ((isd s.data.toList : Int) = dotA (-1)) := dotA_out (dot_out hlt (by omega) (fun _ => by omega) HE.out)
     go_wp2
     go_ret
     exact ⟨-1, rfl, by omega, by omega, HO.out, rfl⟩
    skip
    have HO : Hid ((isd s.data.toList : Int) = dotA (-1)) := dotA_out (dot_out hlt (by omega) (fun _ => by omega) HE.out)
    go_wp2
    go_ret
    exact ⟨-1, rfl, by omega, by omega, HO.out, rfl⟩
   skip
   have HO : Hid ((isd s.data.toList : Int) = dotA (-1)) := dotA_out (dot_out hlt (by omega) (fun _ => by omega) HE.out)
   go_wp2
   go_ret
   exact ⟨-1, rfl, by omega, by omega, HO.out, rfl⟩
  skip
  have HO : Hid ((isd s.data.toList : Int) = dotA (-1)) := dotA_out (dot_out hlt (by omega) (fun _ => by omega) HE.out)
  go_wp2
  go_ret
  exact ⟨-1, rfl, by omega, by omega, HO.out, rfl⟩
 have HO : Hid ((isd s.data.toList : Int) = dotA (m : Int)) := dotA_end (by omega) HE.out
 go_wp2
 go_ret
 exact ⟨m, rfl, by omega, by omega, HO.out, rfl⟩
theorem specIsDotB (s : ByteArray) (w : World) (hs : s.size ≤ 16777216) :
  Calls Tryz.prog 84 #[.string s] w fun e w' => e = .returned (.int .i64 (isd s.data.toList : Int)) ∧ w = w' := by
 go_enter Tryz.func84, Tryz.ntmps84
 go_wp2_with fail
 refine (specL7Dots s _ hs).mono ?_
 rintro e w' ⟨n, rfl, hn0, hn1, hi, rfl⟩
 have HI : Hid ((isd s.data.toList : Int) = dotA n) := hi
 clear hi
 by_cases h : 1 ≤ n ∧ n ≤ 2
 ·have HA : Hid (dotA n = n) := by show _ = _; unfold dotA; rw [if_pos h]
  go_wp2_with fail
  refine (specL1In_yes _ _ _ _ h.1 h.2).mono ?_
  rintro e w' ⟨rfl, rfl⟩
  go_wp2
  go_ret
  exact ⟨ret_int (by rw [HI.out, HA.out]), rfl⟩
 have HA : Hid (dotA n = 0) := by show _ = _; unfold dotA; rw [if_neg h]
 go_wp2_with fail
 refine (specL1In_no _ _ _ _ (by omega)).mono ?_
 rintro e w' ⟨rfl, rfl⟩
 go_wp2
 go_ret
 exact ⟨ret_int (by rw [HI.out, HA.out]), rfl⟩
theorem ret_bytes {a b : ByteArray} (h : a = b) : Ending.returned (.string a) = .returned (.string b) := by rw [h]
theorem cell_same {W W' : World} {g : Nat} (h : W'.heap[g]? = W.heap[g]?) (j : Nat) : W'.cell? ⟨g, j, none⟩ = W.cell? ⟨g, j, none⟩ := by
 simp only [World.cell?, h]
end Go.Proofs.YtidecdlaeomfoaaGreat
