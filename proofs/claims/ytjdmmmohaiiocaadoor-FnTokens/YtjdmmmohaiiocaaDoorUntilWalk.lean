/- Contract of a text up to the first of some bytes. -/
import Derived.Test.YtjdmmmohaiiocaaDoorRows
import Derived.Test.YtjdmmmohaiiocaaDoorLetWalk
import Derived.Test.YtjdmmmohaiiocaaDoorExtPlain
namespace Go.Proofs.YtjdmmmohaiiocaaDoor
open Go.RowKit

set_option maxHeartbeats 2000000 in
theorem specUntil (p : UInt8 → Bool) (m s : ByteArray) (w : World) (hm : m.size ≤ 1000) (hp : ∀ c : UInt8, amongL m.data.toList (c.toNat : Int) = !p c) (hs : s.size ≤ 16777216) :
    Calls Tryd.prog 31 #[.string s, .string m] w fun e w' => e = .returned (.tuple #[.string ⟨(s.data.toList.takeWhile p).toArray⟩, .string ⟨(s.data.toList.dropWhile p).toArray⟩]) ∧ Below w.heap.size w w' := by
  go_enter Tryd.func31, Tryd.ntmps31
  go_wp2
  go_loop [6] (fun i => ∃ k : Nat, k ≤ s.size ∧ i = .int .i64 k ∧ ∀ c ∈ s.data.toList.take k, p c = true) (fun i => s.size - (intOf i).toNat)
  case atStart => exact ⟨0, Nat.zero_le _, rfl, fun c hc => by cases hc⟩
  case round =>
    obtain ⟨k, hk, rfl, hall⟩ := hrel
    have HA : Hid (∀ c ∈ s.data.toList.take k, p c = true) := hall
    clear hall
    by_cases hlt : k < s.size
    · have hdr := drop_at s k hlt
      have hpc := hp s[k]
      obtain ⟨d, hd⟩ : ∃ d : Nat, s[k].toNat = d := ⟨_, rfl⟩
      rw [hd] at hpc
      have CA : Hid (∀ W, Calls Tryd.prog 48 #[.string m, .int .i64 (d : Int)] W fun e w' => e = .returned (.bool (!p s[k])) ∧ W = w') := fun W => by
        have h := specAmong m (d : Int) W (by omega)
        rw [hpc] at h
        exact h
      clear hpc
      have hd2 : (d : Int) < 256 := by have := s[k].toNat_lt; omega
      cases hb : p s[k] with
      | true =>
        have HN : Hid (∀ c ∈ s.data.toList.take (k + 1), p c = true) := fun c hc => by
          rw [take_snoc s k hlt] at hc
          rcases List.mem_append.1 hc with h | h
          · exact HA.out c h
          · rw [List.mem_singleton.1 h]; exact hb
        rw [hb] at CA
        clear hb hdr
        go_wp2_with fail
        refine (CA.out _).mono ?_
        rintro e w' ⟨rfl, rfl⟩
        go_wp2_with fail
        go_round
        case rel => exact ⟨k + 1, by omega, by go_num, HN.out⟩
        case measure => simp [intOf]; omega
      | false =>
        obtain ⟨h1, h2⟩ := while_cut HA.out
        rw [hdr, List.takeWhile_cons, hb, if_neg (by decide), List.append_nil] at h1
        rw [hdr, List.dropWhile_cons, hb, if_neg (by decide), ← hdr] at h2
        have H1 : Hid (s.extract 0 k = ⟨(s.data.toList.takeWhile p).toArray⟩) := by show _ = _; rw [h1, ← take_data, mk_data]
        have H2 : Hid (s.extract k s.size = ⟨(s.data.toList.dropWhile p).toArray⟩) := by show _ = _; rw [h2, ← drop_data, mk_data]
        rw [hb] at CA
        clear hb hdr h1 h2
        go_wp2_with fail
        refine (CA.out _).mono ?_
        rintro e w' ⟨rfl, rfl⟩
        go_wp2
        go_region
        all_goals (try go_wp2)
        all_goals go_ret2
        all_goals exact ⟨by rw [← H1.out, ← H2.out]; rfl, (Below.refl _ _).drew⟩
    · have HN : Hid (∀ c ∈ s.data.toList, p c = true) := fun c hc => HA.out c (by rw [take_all s k (by omega)]; exact hc)
      obtain ⟨h1, h2⟩ := while_cut (p := p) (l := s.data.toList) (k := s.size) (fun c hc => HN.out c (List.mem_of_mem_take hc))
      rw [take_all s s.size (Nat.le_refl _), List.drop_of_length_le (by simp)] at h1
      rw [List.drop_of_length_le (by simp)] at h2
      have h3 : s.data.toList.takeWhile p = s.data.toList := by rw [h1]; simp
      have H1 : Hid (s = ⟨(s.data.toList.takeWhile p).toArray⟩) := by show _ = _; rw [h3]
      have H2 : Hid ((⟨#[]⟩ : ByteArray) = ⟨(s.data.toList.dropWhile p).toArray⟩) := by show _ = _; rw [h2]; rfl
      clear h1 h2 h3
      go_wp2
      go_ret2
      exact ⟨by rw [← H1.out, ← H2.out]; rfl, Below.refl _ _⟩

end Go.Proofs.YtjdmmmohaiiocaaDoor
