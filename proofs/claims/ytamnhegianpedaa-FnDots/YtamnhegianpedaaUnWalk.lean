/- Contracts of spec.Unpercent and impl.Unpercent. -/
import Derived.Test.YtamnhegianpedaaRows
import Derived.Test.YtamnhegianpedaaPctWalk
namespace Go.Proofs.Ytamnhegianpedaa
open Go.RowKit

theorem own_byte {w1 : World} {B : Nat} {e : TypeId} {v : Value} {o : List UInt8} {x : Int} (c : UInt8) (hx : x = (c.toNat : Int))
    (h : w1.ownsRow B e 1 v (o.length + 1) (bcells o ++ #[Value.int .u8 x].toList)) : w1.ownsRow B e 1 v (o ++ [c]).length (bcells (o ++ [c])) := by
  subst hx
  rw [bcells_snoc, List.length_append]
  exact h
theorem byte_one (x : Int) : ∀ u ∈ #[Value.int .u8 x].toList, u.oneCell' = true := by
  intro u hu; simp at hu; subst hu; rfl
theorem ofNat_pct {c : Int} (h0 : 0 ≤ c) (h1 : c ≤ 255) : c = ((UInt8.ofNat c.toNat).toNat : Int) := by
  have : (UInt8.ofNat c.toNat).toNat = c.toNat % 256 := by simp
  omega

theorem un_hit (s : ByteArray) (k : Nat) (o : List UInt8) (h : 0 ≤ pctAt s k) (he : o ++ unL (s.data.toList.drop k) = unL s.data.toList) :
    (o ++ [UInt8.ofNat (pctAt s k).toNat]) ++ unL (s.data.toList.drop (k + 3)) = unL s.data.toList := by
  rw [← he]
  unfold unL
  rw [tok_hit _ _ s k h]
  simp
theorem un_miss (s : ByteArray) (k : Nat) (hk : k < s.size) (o : List UInt8) (h : pctAt s k < 0) (he : o ++ unL (s.data.toList.drop k) = unL s.data.toList) :
    (o ++ [s[k]]) ++ unL (s.data.toList.drop (k + 1)) = unL s.data.toList := by
  rw [← he]
  unfold unL
  rw [tok_miss _ _ s k hk h]
  simp
theorem un_end (s : ByteArray) (k : Nat) (hk : s.size ≤ k) (o : List UInt8) (he : o ++ unL (s.data.toList.drop k) = unL s.data.toList) : o = unL s.data.toList := by
  rw [← he]
  unfold unL
  rw [tok_end _ _ s k hk]
  simp


set_option maxHeartbeats 2000000 in
theorem implUnpercent (s : ByteArray) (w : World) (hs : s.size ≤ 1099511627776) :
    Calls Try.prog 25 #[.string s] w fun e w' => e = .returned (.string ⟨(unL s.data.toList).toArray⟩) ∧ Below w.heap.size w w' := by
  obtain ⟨i0, hi, hz0, hz1, hz2⟩ := info_parts Try.info5
  go_enter Try.func25, Try.ntmps25
  go_wp2_with (at_make; refine wpList_make_own _ rfl _ _ 22 rfl w.heap.size 5 i0 (.int .u8 0) 1 Try.underlying22 hi hz0 hz1 _ _ _ s.size rfl rfl (by omega) (by rw [hz2]; omega) (by unfold maxLen; omega) (Nat.le_refl _) ?_)
  intro wm hmo hgm
  have Bm : Below w.heap.size w wm := (Below.refl _ _).grown hgm (Nat.le_refl _) (fun k hk => by cases hk)
  clear hgm
  go_wp2
  go_loopw [3, 4] (fun v i wr => ∃ (k : Nat) (o : List UInt8), k ≤ s.size ∧ i = .int .i64 k ∧ o.length ≤ k ∧ wr.ownsRow w.heap.size 5 1 v o.length (bcells o) ∧ o ++ unL (s.data.toList.drop k) = unL s.data.toList ∧ Below w.heap.size w wr)
    (fun _ i _ => s.size - (intOf i).toNat)
  case atStart => exact ⟨0, [], Nat.zero_le _, rfl, Nat.zero_le _, hmo, rfl, Bm⟩
  case round =>
    clear hmo Bm hi hz0 hz1 hz2
    obtain ⟨k, o, hk, rfl, hol, hown, he, hbel⟩ := hrel
    have HE : Hid (o ++ unL (s.data.toList.drop k) = unL s.data.toList) := he
    clear he
    have hsz := hbel.size
    by_cases hlt : k < s.size
    · have hct := fun W => implPctAt s k W hlt hs
      have hcl := pctAt_le s k
      by_cases hc : 0 ≤ pctAt s k
      · have HN : Hid ((o ++ [UInt8.ofNat (pctAt s k).toNat]) ++ unL (s.data.toList.drop (k + 3)) = unL s.data.toList) := un_hit s k o hc HE.out
        have hk3 := pctAt_lt hc
        generalize pctAt s k = c at hct hcl hc HN
        obtain ⟨hc0, hc1⟩ := hcl
        have HC : Hid (∀ W, Calls Try.prog 38 #[.string s, .int .i64 (k : Int)] W fun e w' => e = .returned (.int .i64 c) ∧ Below W.heap.size W w') := hct
        clear hct
        go_wp2_with fail
        refine (HC.out _).mono ?_
        rintro e wb ⟨rfl, bb⟩
        have ob := own_below hown bb
        have hsb := bb.size
        go_wp2_with (at_builtin; refine wpList_append_new _ rfl _ _ 22 rfl w.heap.size 5 (.int .u8 0) 1 Try.underlying22 Try.info5 rfl _ _ _ rfl ob #[.int .u8 c] 1 rfl rfl (byte_one _) (by omega) (by unfold maxLen; omega) (by omega) ?_)
        intro v' w1 hown' hb1
        have R := own_byte _ (ofNat_pct hc hc1) hown'
        have B1 : Below w.heap.size w w1 := (hbel.trans (bb.mono hsz)).trans hb1
        clear hown' hb1 hown hbel ob bb
        go_wp2
        go_roundw
        case rel => exact ⟨k + 3, _, by omega, by go_num, by simp; omega, R, HN.out, B1⟩
        case measure => simp [intOf]; omega
      · have HN : Hid ((o ++ [s[k]]) ++ unL (s.data.toList.drop (k + 1)) = unL s.data.toList) := un_miss s k hlt o (by omega) HE.out
        generalize pctAt s k = c at hct hcl hc
        obtain ⟨hc0, hc1⟩ := hcl
        have HC : Hid (∀ W, Calls Try.prog 38 #[.string s, .int .i64 (k : Int)] W fun e w' => e = .returned (.int .i64 c) ∧ Below W.heap.size W w') := hct
        clear hct
        go_wp2_with fail
        refine (HC.out _).mono ?_
        rintro e wb ⟨rfl, bb⟩
        have ob := own_below hown bb
        have hsb := bb.size
        go_wp2_with (at_builtin; refine wpList_append_new _ rfl _ _ 22 rfl w.heap.size 5 (.int .u8 0) 1 Try.underlying22 Try.info5 rfl _ _ _ rfl ob #[.int .u8 (s[k].toNat : Int)] 1 rfl rfl (byte_one _) (by omega) (by unfold maxLen; omega) (by omega) ?_)
        intro v' w1 hown' hb1
        have R := own_byte s[k] rfl hown'
        have B1 : Below w.heap.size w w1 := (hbel.trans (bb.mono hsz)).trans hb1
        clear hown' hb1 hown hbel ob bb
        go_wp2
        go_roundw
        case rel => exact ⟨k + 1, _, by omega, by go_num, by simp; omega, R, HN.out, B1⟩
        case measure => simp [intOf]; omega
    · have HO := run_string_own (P := Try.prog) wr 22 9 5 Try.underlying22 Try.underlying5 Try.underlying9 hown
      go_wp2
      go_ret
      exact ⟨ret_str (un_end s k (by omega) o HE.out), hbel⟩
end Go.Proofs.Ytamnhegianpedaa
