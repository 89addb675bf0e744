/- The contract of the specification's RulesText. -/
import Derived.Test.YtijliddchoehhaaDoorRows
import Derived.Test.YtijliddchoehhaaDoorRuleSpec2
namespace Go.Proofs.YtijliddchoehhaaDoor
open Go.RowKit
set_option linter.unusedVariables false

def dots (l : List ByteArray) : List UInt8 := l.flatMap fun x => x.data.toList ++ [46]
theorem dots_jn : ∀ {l : List ByteArray}, l ≠ [] → dots l = jn 46 l ++ [46]
  | [], h => absurd rfl h
  | [x], _ => by simp [dots, jn]
  | x :: y :: l, _ => by
    have := dots_jn (l := y :: l) (by simp)
    show x.data.toList ++ [46] ++ dots (y :: l) = _
    rw [this]
    simp [jn]
/-- What of a rule's parts is written while m of them are left. -/
def restT (ps : List ByteArray) (m : Nat) : List UInt8 := if m = 0 then jn 46 ps.reverse else dots (ps.drop m).reverse
theorem drop_one {ps : List ByteArray} {m : Nat} (h : m < ps.length) : (ps.drop m).reverse = (ps.drop (m + 1)).reverse ++ [ps.getD m ByteArray.empty] := by
  rw [List.drop_eq_getElem_cons h, List.reverse_cons, List.getD_eq_getElem?_getD, List.getElem?_eq_getElem h]
  rfl
theorem restT_dot {ps : List ByteArray} {m : Nat} (h : m < ps.length) (h0 : 0 < m) : restT ps m = restT ps (m + 1) ++ (ps.getD m ByteArray.empty).data.toList ++ [46] := by
  unfold restT
  rw [if_neg (by omega), if_neg (by omega), drop_one h]
  unfold dots
  rw [List.flatMap_append]
  simp
theorem restT_last {ps : List ByteArray} (h : 0 < ps.length) : restT ps 0 = restT ps 1 ++ (ps.getD 0 ByteArray.empty).data.toList := by
  unfold restT
  rw [if_pos rfl, if_neg (by omega)]
  have e := drop_one (ps := ps) (m := 0) h
  rw [List.drop_zero] at e
  rw [e]
  by_cases hd : (ps.drop 1).reverse = []
  · rw [hd]; simp [jn, dots]
  · rw [jn_snoc 46 _ _ hd, dots_jn hd]
theorem restT_whole (ps : List ByteArray) (h : 0 < ps.length) : restT ps ps.length = [] := by
  unfold restT
  rw [if_neg (by omega), List.drop_length]
  rfl
theorem part_size {ex : Bool} {n i : Nat} {p : ByteArray} (h : partB ex n i p = true) : p.size ≤ 63 := by
  unfold partB at h
  simp only [Bool.or_eq_true, Bool.and_eq_true, decide_eq_true_eq] at h
  have hs : p.data.toList.length = p.size := by simp
  rcases h with h | h
  · rw [h.1.1] at hs
    simp at hs
    omega
  · have := (labL_parts h).2.1
    omega
theorem rules_at {l : List RV} (h : rulesB l = true) {i : Nat} (hi : i < l.length) : ruleB (l.getD i rv0) = true ∧ l.length ≤ 60 := by
  unfold rulesB at h
  simp only [Bool.and_eq_true, decide_eq_true_eq] at h
  have := all_range.1 h.1 i hi
  unfold newB at this
  simp only [Bool.and_eq_true] at this
  exact ⟨this.1, h.2⟩
theorem flat_snoc {l : List RV} {k : Nat} (h : k < l.length) : (l.take (k + 1)).flatMap ruleT = (l.take k).flatMap ruleT ++ ruleT (l.getD k rv0) := by
  rw [List.take_succ_eq_append_getElem h, List.flatMap_append, List.getD_eq_getElem?_getD, List.getElem?_eq_getElem h]
  simp
theorem bytes_app (a b : ByteArray) : (a ++ b).data.toList = a.data.toList ++ b.data.toList := by rw [ByteArray.data_append, Array.toList_append]
theorem ret_text {S : ByteArray} {l : List UInt8} (h : S.data.toList = l) : Ending.returned (.string S) = .returned (.string ⟨l.toArray⟩) := by
  rw [show S = ⟨l.toArray⟩ from ba_eq.2 h]
set_option maxHeartbeats 4000000 in
theorem specRulesText (l : List RV) (v : Value) (w : World) (hl : l.length ≤ 1048576) (hz : RSz l) (h : RuleRow w v l) :
    Calls Tryd.prog 31 #[v] w fun e w' => e = .returned (.string ⟨(rulesT l).toArray⟩) ∧ Below w.heap.size w w' := by
  have CO : Hid (Calls Tryd.prog 8 #[v] w fun e w' => e = .returned (.bool (rulesB l)) ∧ Below w.heap.size w w') := specRulesOk l v w hl hz h
  clear hz
  have hd1 : (⟨#[33]⟩ : ByteArray).size = 1 := rfl
  have hd2 : (⟨#[46]⟩ : ByteArray).size = 1 := rfl
  have hd3 : (⟨#[10]⟩ : ByteArray).size = 1 := rfl
  cases hr : rulesB l with
  | false =>
    have HE : Hid (rulesT l = []) := by
      show _ = _
      unfold rulesT
      rw [if_neg (by rw [hr]; decide)]
    rw [hr] at CO
    clear hr
    obtain ⟨ao, cap, rfl⟩ := h.slice
    clear h
    go_enter Tryd.func31, Tryd.ntmps31
    go_wp2_with fail
    refine CO.out.mono ?_
    rintro e w1 ⟨rfl, b1⟩
    go_wp2_with fail
    go_ret
    exact ⟨by rw [HE.out]; rfl, b1⟩
  | true =>
    have HE : Hid (rulesT l = l.flatMap ruleT) := by
      show _ = _
      unfold rulesT
      rw [if_pos hr]
    rw [hr] at CO
    have HR : Hid (rulesB l = true) := hr
    clear hr
    rcases h with ⟨rfl, ao, cap, rfl⟩ | ⟨h0, g, off, cap, rfl, hg, hc⟩
    · clear hl HR
      go_enter Tryd.func31, Tryd.ntmps31
      go_wp2_with fail
      refine CO.out.mono ?_
      rintro e w1 ⟨rfl, b1⟩
      go_wp2_with fail
      refine wp_loop_rounds 1 ?_
      rw [rounds_succ]
      go_wp2_with fail
      go_ret
      exact ⟨by rw [HE.out]; rfl, b1⟩
    · have HC : Hid (∀ i, i < l.length → ∃ p, w.cell? ⟨g, off + i * 2, none⟩ = some p ∧ StrRow w p (l.getD i rv0).ps ∧ w.cell? ⟨g, off + i * 2 + 1, none⟩ = some (.bool (l.getD i rv0).ex)) := hc
      clear hc
      have h60 : l.length ≤ 60 := (rules_at HR.out h0).2
      clear hl
      go_enter Tryd.func31, Tryd.ntmps31
      go_wp2_with fail
      refine CO.out.mono ?_
      rintro e w1 ⟨rfl, b1⟩
      clear CO
      go_wp2_with fail
      go_loop [3, 4] (fun a i => ∃ (k : Nat) (S : ByteArray), k ≤ l.length ∧ i = .int .i64 k ∧ a = .string S ∧ Hid (S.data.toList = (l.take k).flatMap ruleT) ∧ S.size ≤ 600 * k) (fun _ i => l.length - (intOf i).toNat)
      case atStart => exact ⟨0, ⟨#[]⟩, Nat.zero_le _, rfl, rfl, rfl, Nat.le_refl _⟩
      case round =>
        obtain ⟨k, S, hk, rfl, rfl, HS, hsz⟩ := hrel
        by_cases hlt : k < l.length
        · have hki : (k : Int) < l.length := by omega
          obtain ⟨p, c1, c2, c3⟩ := HC.out k hlt
          have c1w := (b1.cell (p := ⟨g, off + k * 2, none⟩) hg).trans c1
          have c3w := (b1.cell (p := ⟨g, off + k * 2 + 1, none⟩) hg).trans c3
          have c2w := c2.below b1
          have HT : Hid ((l.take (k + 1)).flatMap ruleT = (l.take k).flatMap ruleT ++ ruleT (l.getD k rv0)) := flat_snoc hlt
          obtain ⟨⟨hr1, hr8⟩, _, hrp⟩ := ruleB_yes (rules_at HR.out hlt).1
          clear c1 c2 c3
          generalize l.getD k rv0 = r at *
          have HRP : Hid (∀ i, i < r.ps.length → (r.ps.getD i ByteArray.empty).size ≤ 63) := fun i hi => part_size (hrp i hi)
          clear hrp
          rcases c2w with ⟨h, _⟩ | ⟨_, g', off', cap', rfl, hg', hc'⟩
          · rw [h] at hr1; simp at hr1
          have HC' : Hid (∀ i, i < r.ps.length → w1.cell? ⟨g', off' + i, none⟩ = some (.string (r.ps.getD i ByteArray.empty))) := hc'
          clear hc'
          cases hex : r.ex with
          | true =>
            rw [hex] at c3w
            have HB : Hid ((S ++ ⟨#[33]⟩).data.toList = (l.take k).flatMap ruleT ++ (if r.ex = true then [33] else [])) := by
              show _ = _
              rw [bytes_app, HS.out, hex]
              rfl
            have hs1 : (S ++ ⟨#[33]⟩).size ≤ 600 * k + 1 := by rw [ByteArray.size_append, hd1]; omega
            clear hex HS
            go_wp2_with fail
            generalize S ++ ⟨#[33]⟩ = S1 at HB hs1 ⊢
            go_loop [3, 5] (fun a i => ∃ (m : Nat) (S : ByteArray), m ≤ r.ps.length ∧ i = .int .i64 ((m : Int) - 1) ∧ a = .string S ∧ Hid (S.data.toList = (l.take k).flatMap ruleT ++ (if r.ex = true then [33] else []) ++ restT r.ps m) ∧ S.size + 64 * m ≤ 600 * k + 1 + 64 * r.ps.length) (fun _ i => (intOf i + 1).toNat)
            case atStart =>
              refine ⟨r.ps.length, S1, Nat.le_refl _, rfl, rfl, ?_, by omega⟩
              show _ = _
              rw [restT_whole _ hr1, List.append_nil]
              exact HB.out
            case round =>
              obtain ⟨m, S2, hm, rfl, rfl, HS2, hsz2⟩ := hrel
              clear HB hs1
              by_cases hm0 : 0 < m
              · obtain ⟨q, rfl⟩ : ∃ q, m = q + 1 := ⟨m - 1, by omega⟩
                have hqi : (((q + 1 : Nat) : Int) - 1) = (q : Int) := by omega
                have ca := HC'.out q (by omega)
                have hx := HRP.out q (by omega)
                have HD : Hid (0 < q → restT r.ps q = restT r.ps (q + 1) ++ (r.ps.getD q ByteArray.empty).data.toList ++ [46]) := restT_dot (by omega)
                have HL : Hid (q = 0 → restT r.ps q = restT r.ps (q + 1) ++ (r.ps.getD q ByteArray.empty).data.toList) := fun h => by
                  subst h
                  exact restT_last (by omega)
                generalize r.ps.getD q ByteArray.empty = x at ca hx HD HL
                have hsx : (S2 ++ x).size ≤ 100000 := by rw [ByteArray.size_append]; omega
                have hsy : (S2 ++ x ++ ⟨#[46]⟩).size + 64 * q ≤ 600 * k + 1 + 64 * r.ps.length := by rw [ByteArray.size_append, ByteArray.size_append, hd2]; omega
                rw [hqi]
                by_cases hq0 : 0 < q
                · have HN : Hid ((S2 ++ x ++ ⟨#[46]⟩).data.toList = (l.take k).flatMap ruleT ++ (if r.ex = true then [33] else []) ++ restT r.ps q) := by
                    show _ = _
                    rw [bytes_app, bytes_app, HS2.out, HD.out hq0]
                    simp
                  have hqp : 0 < (q : Int) := by omega
                  clear HS2 HD HL
                  go_wp2_with fail
                  go_round
                  case rel => exact ⟨q, _, by omega, by go_num, rfl, HN, hsy⟩
                  case measure => simp [intOf] <;> omega
                · obtain rfl : q = 0 := by omega
                  rw [Nat.add_zero] at ca
                  have HN : Hid ((S2 ++ x).data.toList = (l.take k).flatMap ruleT ++ (if r.ex = true then [33] else []) ++ restT r.ps 0) := by
                    show _ = _
                    rw [bytes_app, HS2.out, HL.out rfl]
                    simp
                  have hsz3 : (S2 ++ x).size + 64 * 0 ≤ 600 * k + 1 + 64 * r.ps.length := by rw [ByteArray.size_append]; omega
                  clear HS2 HD HL
                  go_wp2_with fail
                  go_round
                  case rel => exact ⟨0, _, by omega, by go_num, rfl, HN, hsz3⟩
                  case measure => simp [intOf] <;> omega
              · obtain rfl : m = 0 := by omega
                have HN : Hid ((S2 ++ ⟨#[10]⟩).data.toList = (l.take (k + 1)).flatMap ruleT) := by
                  show _ = _
                  rw [bytes_app, HS2.out, HT.out]
                  unfold ruleT restT
                  rw [if_pos rfl]
                  simp
                have hs3 : (S2 ++ ⟨#[10]⟩).size ≤ 600 * (k + 1) := by rw [ByteArray.size_append, hd3]; omega
                clear HS2 HT
                go_wp2_with fail
                go_round
                case rel => exact ⟨k + 1, _, by omega, by go_num, rfl, HN, hs3⟩
                case measure => simp [intOf] <;> omega
          | false =>
            rw [hex] at c3w
            have HB : Hid (S.data.toList = (l.take k).flatMap ruleT ++ (if r.ex = true then [33] else [])) := by
              show _ = _
              rw [HS.out, hex]
              simp
            have hs1 : S.size ≤ 600 * k + 1 := by omega
            clear hex HS hsz
            go_wp2_with fail
            generalize S = S1 at HB hs1 ⊢
            go_loop [3, 5] (fun a i => ∃ (m : Nat) (S : ByteArray), m ≤ r.ps.length ∧ i = .int .i64 ((m : Int) - 1) ∧ a = .string S ∧ Hid (S.data.toList = (l.take k).flatMap ruleT ++ (if r.ex = true then [33] else []) ++ restT r.ps m) ∧ S.size + 64 * m ≤ 600 * k + 1 + 64 * r.ps.length) (fun _ i => (intOf i + 1).toNat)
            case atStart =>
              refine ⟨r.ps.length, S1, Nat.le_refl _, rfl, rfl, ?_, by omega⟩
              show _ = _
              rw [restT_whole _ hr1, List.append_nil]
              exact HB.out
            case round =>
              obtain ⟨m, S2, hm, rfl, rfl, HS2, hsz2⟩ := hrel
              clear HB hs1
              by_cases hm0 : 0 < m
              · obtain ⟨q, rfl⟩ : ∃ q, m = q + 1 := ⟨m - 1, by omega⟩
                have hqi : (((q + 1 : Nat) : Int) - 1) = (q : Int) := by omega
                have ca := HC'.out q (by omega)
                have hx := HRP.out q (by omega)
                have HD : Hid (0 < q → restT r.ps q = restT r.ps (q + 1) ++ (r.ps.getD q ByteArray.empty).data.toList ++ [46]) := restT_dot (by omega)
                have HL : Hid (q = 0 → restT r.ps q = restT r.ps (q + 1) ++ (r.ps.getD q ByteArray.empty).data.toList) := fun h => by
                  subst h
                  exact restT_last (by omega)
                generalize r.ps.getD q ByteArray.empty = x at ca hx HD HL
                have hsx : (S2 ++ x).size ≤ 100000 := by rw [ByteArray.size_append]; omega
                have hsy : (S2 ++ x ++ ⟨#[46]⟩).size + 64 * q ≤ 600 * k + 1 + 64 * r.ps.length := by rw [ByteArray.size_append, ByteArray.size_append, hd2]; omega
                rw [hqi]
                by_cases hq0 : 0 < q
                · have HN : Hid ((S2 ++ x ++ ⟨#[46]⟩).data.toList = (l.take k).flatMap ruleT ++ (if r.ex = true then [33] else []) ++ restT r.ps q) := by
                    show _ = _
                    rw [bytes_app, bytes_app, HS2.out, HD.out hq0]
                    simp
                  have hqp : 0 < (q : Int) := by omega
                  clear HS2 HD HL
                  go_wp2_with fail
                  go_round
                  case rel => exact ⟨q, _, by omega, by go_num, rfl, HN, hsy⟩
                  case measure => simp [intOf] <;> omega
                · obtain rfl : q = 0 := by omega
                  rw [Nat.add_zero] at ca
                  have HN : Hid ((S2 ++ x).data.toList = (l.take k).flatMap ruleT ++ (if r.ex = true then [33] else []) ++ restT r.ps 0) := by
                    show _ = _
                    rw [bytes_app, HS2.out, HL.out rfl]
                    simp
                  have hsz3 : (S2 ++ x).size + 64 * 0 ≤ 600 * k + 1 + 64 * r.ps.length := by rw [ByteArray.size_append]; omega
                  clear HS2 HD HL
                  go_wp2_with fail
                  go_round
                  case rel => exact ⟨0, _, by omega, by go_num, rfl, HN, hsz3⟩
                  case measure => simp [intOf] <;> omega
              · obtain rfl : m = 0 := by omega
                have HN : Hid ((S2 ++ ⟨#[10]⟩).data.toList = (l.take (k + 1)).flatMap ruleT) := by
                  show _ = _
                  rw [bytes_app, HS2.out, HT.out]
                  unfold ruleT restT
                  rw [if_pos rfl]
                  simp
                have hs3 : (S2 ++ ⟨#[10]⟩).size ≤ 600 * (k + 1) := by rw [ByteArray.size_append, hd3]; omega
                clear HS2 HT
                go_wp2_with fail
                go_round
                case rel => exact ⟨k + 1, _, by omega, by go_num, rfl, HN, hs3⟩
                case measure => simp [intOf] <;> omega
        · have hki : ¬ (k : Int) < l.length := by omega
          have HF : Hid (S.data.toList = rulesT l) := by
            show _ = _
            rw [HE.out, HS.out, show k = l.length by omega, List.take_length]
          clear HS
          go_wp2_with fail
          go_ret
          exact ⟨ret_text HF.out, b1⟩
end Go.Proofs.YtijliddchoehhaaDoor
