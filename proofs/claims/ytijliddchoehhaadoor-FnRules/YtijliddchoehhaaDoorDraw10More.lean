/- Contracts of what is drawn for chapter 10: DrawRulesText, DrawParseRules. -/
import Derived.Test.YtijliddchoehhaaDoorRows
import Derived.Test.YtijliddchoehhaaDoorDraw10Walk
import Derived.Test.YtijliddchoehhaaDoorRuleSpec3
import Derived.Test.YtijliddchoehhaaDoorRuleLen
namespace Go.Proofs.YtijliddchoehhaaDoor
open Go.RowKit
set_option linter.unusedVariables false
set_option linter.unusedSimpArgs false

theorem rulesT_le (l : List RV) : (rulesT l).length ≤ 36000 := by
  unfold rulesT
  split
  · rename_i h
    have h1 := flat_le (rules_each h)
    have h2 := rules_60 h
    have : l.length * 600 ≤ 60 * 600 := Nat.mul_le_mul h2 (Nat.le_refl _)
    omega
  · simp
set_option maxRecDepth 100000 in
set_option maxHeartbeats 8000000 in
theorem l10Any (D B : Nat) (ao : Option Addr) (len cap : Nat) (w : World) (hcur : Cur D B ao len cap w) :
    Calls Tryd.prog 18 #[.pointer (some ⟨B, 0, none⟩)] w fun e w' => ∃ (v : Value) (l : List RV), (l.length ≤ 61 ∧ RSz l) ∧ e = .returned v ∧ RuleRow w' v l ∧ Cur D B ao len cap w' ∧ w.grownBy w' (some B) := by
  have HC : Hid (Cur D B ao len cap w) := hcur
  have hB := hcur.lt
  obtain ⟨i0, hi, hz0, hz1, hz2⟩ := info_parts Tryd.infoRule
  clear hcur
  go_enter Tryd.func18, Tryd.ntmps18
  go_wp2_with fail
  refine (l10Draw _ _ _ _ _ _ HC.out).mono ?_
  rintro e w1 ⟨v, l, hr, rfl, ra, c1, g1⟩
  have h60 := rules_60 hr
  have HZ := hidden (rules_sz hr)
  have C1 := hidden c1
  have RA := hidden ra
  clear hr c1 ra HC
  go_wp2_with fail
  refine (l1Below 10 _ _ _ _ _ _ (by omega) (by omega) C1.out).mono ?_
  rintro e w2 ⟨x, hx0, hx1, rfl, c2, g2⟩
  have C2 := hidden c2
  have R2 := hidden (RA.out.grown g2 hB)
  have G2 := hidden (grow_trans g1 g2)
  clear c2 g2 g1 C1 RA
  by_cases h0 : x = 0
  · subst h0
    have hB2 := C2.out.lt
    go_wp2_with fail
    refine (l1StrX 20 5 _ 5 0 _ _ _ _ _ _ _ (by omega) (by omega) (C2.out.alloc _) (World.ownsRow_lit w2 _ 5 (Nat.zero_le _) (by decide) rfl) (by omega) (by decide)).mono ?_
    rintro e w3 ⟨y, hy, rfl, c3, g3⟩
    have C3 := hidden c3
    have G23 := hidden (grow_trans (World.grownBy_alloc w2 _ (some B)) g3)
    have hB3 := c3.lt
    clear c3 g3
    go_wp2_with fail
    refine (l1StrX 20 3 _ 3 0 _ _ _ _ _ _ _ (by omega) (by omega) (C3.out.alloc _) (World.ownsRow_lit w3 _ 3 (Nat.zero_le _) (by decide) rfl) (by omega) (by decide)).mono ?_
    rintro e w4 ⟨z, hz, rfl, c4, g4⟩
    have C4 := hidden c4
    have G24 := hidden (grow_trans G23.out (grow_trans (World.grownBy_alloc w3 _ (some B)) g4))
    have hB4 := c4.lt
    clear c4 g4
    go_wp2_with fail
    refine (l1Once 2 _ _ _ _ _ _ (by omega) (by omega) (C4.out.alloc _)).mono ?_
    rintro e w5 ⟨b, rfl, c5, g5⟩
    have C5 := hidden c5
    have O5 : Hid (w5.ownsRow w4.heap.size 9 1 (.slice (some ⟨w4.heap.size, 0, none⟩) 2 2) 2 (scells [y, z])) := (World.ownsRow_lit w4 #[.string y, .string z] 2 (Nat.le_refl _) (by decide) rfl).kept g5 (by simp [Value.ownBlock]; omega)
    have G25 := hidden (grow_trans G24.out (grow_trans (World.grownBy_alloc w4 _ (some B)) g5))
    have R5 := hidden (R2.out.grown G25.out hB)
    have hz24 := G24.out.size
    have HBV : Hid (∀ b, v.ownBlock = some b → b < w2.heap.size) := fun b hb => by
      obtain ⟨_, _, _, _, h1, _⟩ := R2.out
      exact (h1.lt b hb).2
    clear c5 g5 C2 C3 C4 G23 G24 R2
    obtain ⟨vs, ad, c, rfl, ho, hin, hap⟩ := R5.out
    have hbv := HBV.out ad.block rfl
    clear HBV
    have HAP := hidden hap
    have hz5 := G25.out.size
    have hzw := G2.out.size
    have hz4 : w.heap.size ≤ w4.heap.size := by omega
    have H51 := hidden (BAt.new w5 #[.slice (some ⟨w4.heap.size, 0, none⟩) 2 2, .bool b] 32)
    have HVL : Hid (vs.length = l.length * 2) := ho.1
    have HO := hidden ho
    have HIN := hidden hin
    clear ho hin hap R5
    go_wp2_with (at_builtin; refine wpList_append_own _ rfl _ _ 24 rfl w.heap.size 32 i0 (.agg #[.slice none 0 0, .bool false]) 2 32 Tryd.underlying24 hi hz0 hz1 hz2 rfl (by decide) (.slice (some ad) l.length c) l.length vs rfl (HO.out.alloc _) ⟨w5.heap.size, 0, none⟩ 1 1 [.slice (some ⟨w4.heap.size, 0, none⟩) 2 2, .bool b] rfl rfl (fun j u hj => by rw [Addr.add_lit, Nat.zero_add]; exact H51.out.1 j u hj) (by intro u hu; simp at hu; rcases hu with rfl | rfl <;> rfl) (by unfold maxLen; omega) (by omega) (by simp; omega) ?_; intro v' w6 o6 g6 _)
    go_ret
    have hb : Below w.heap.size w5 w6 := ((Below.refl w.heap.size w5).alloc (by omega) _).grown g6 (by simp; omega) (fun k hk => (HO.out.lt k hk).1)
    have HAB : Hid ((Value.slice (some ad) l.length c).ownBlock = some ad.block) := rfl
    have g56 : w5.grownBy w6 (some ad.block) := grow_trans (World.grownBy_alloc w5 _ _) g6
    have hbl : w.heap.size ≤ ad.block := (HO.out.lt ad.block rfl).1
    have hle := C5.out.le
    have I6 := (HIN.out.apart HAP.out g56).snoc (p := .slice (some ⟨w4.heap.size, 0, none⟩) 2 2) (r := RV.mk [y, z] b) HVL.out (StrRow.of_own (O5.out.kept g56 (.inr (by simp [Value.ownBlock]; omega)))) (fun q hq => by have : w4.heap.size = q := (by injection hq); omega)
    refine ⟨_, l ++ [RV.mk [y, z] b], ⟨by simp; omega, ?_⟩, rfl, ?_, C5.out.keep (hb.block B hB) (fun k hk => hb.block k (by omega)), ?_⟩
    · intro r hr
      rcases List.mem_append.1 hr with h | h
      · exact HZ.out r h
      · rw [List.mem_singleton.1 h]
        refine ⟨by show 2 ≤ _; omega, fun x hx => ?_⟩
        simp at hx
        rcases hx with rfl | rfl <;> omega
    · refine RuleRow.of_own (vs := vs ++ [.slice (some ⟨w4.heap.size, 0, none⟩) 2 2, .bool b]) (base := w.heap.size) (e := 32) ?_ I6.cells
      rw [List.length_append]
      exact o6
    · have g := grow_trans G2.out G25.out
      exact ⟨hb.os.trans g.os, hb.tape.trans g.tape, hb.output.trans g.output, Nat.le_trans g.size g56.size, fun k hk hn => (hb.block k hk).trans (g.block k hk hn)⟩
  · have hx0' : (x == 0) = false := by simpa using h0
    clear h0
    go_wp2_with fail
    go_ret
    exact ⟨v, l, ⟨by omega, HZ.out⟩, rfl, R2.out.row, C2.out, G2.out⟩
set_option maxRecDepth 100000 in
set_option maxHeartbeats 4000000 in
theorem drawRulesText (ao : Option Addr) (len cap : Nat) (w : World) (hl : len ≤ 1048576) (hcode : CodeRow w.heap.size w ao len) :
    Calls Tryd.prog 6 #[.slice ao len cap] w fun e w' => ∃ (v : Value) (l : List RV), (l.length ≤ 61 ∧ RSz l) ∧ e = .returned v ∧ RuleRow w' v l ∧ Below w.heap.size w w' := by
  have HCO : Hid (CodeRow w.heap.size w ao len) := hcode
  clear hcode
  go_enter Tryd.func6, Tryd.ntmps6
  go_wp2_with fail
  refine (l1New _ _ _ _ hl HCO.out).mono ?_
  rintro e wa ⟨B, rfl, hBw, ca, ba⟩
  have CA : Hid (Cur w.heap.size B ao len cap wa) := ca
  clear ca
  go_wp2_with fail
  refine (l10Any _ _ _ _ _ _ CA.out).mono ?_
  rintro e wb ⟨v, l, hl, rfl, hr, cb, gb⟩
  have B1 : Below w.heap.size w wb := ba.grown gb ba.size (fun k hk => by cases hk; exact hBw)
  have HR := hidden hr
  clear cb gb ba hr
  go_wp2_with fail
  go_ret
  exact ⟨v, l, hl, rfl, HR.out, B1⟩
theorem bytes_grow {W V : World} {g : Nat} {l : List UInt8} {row : Option Nat} (h : bytesAt W g l) (hg : W.grownBy V row) (hlt : g < W.heap.size) (hne : some g ≠ row) : bytesAt V g l := by
  intro j hj
  have e := hg.block g hlt hne
  have e1 : V.cell? ⟨g, j, none⟩ = W.cell? ⟨g, j, none⟩ := by simp only [World.cell?, e]
  have e2 : V.frozen? ⟨g, j, none⟩ = W.frozen? ⟨g, j, none⟩ := by simp only [World.frozen?, e]
  rw [e1, e2]
  exact h j hj
theorem byte_of (z : Int) : z % 256 = ((UInt8.ofNat (z % 256).toNat).toNat : Int) := by
  have h0 : 0 ≤ z % 256 := Int.emod_nonneg _ (by decide)
  have h1 : z % 256 < 256 := Int.emod_lt_of_pos _ (by decide)
  simp
  omega
set_option maxRecDepth 100000 in
set_option maxHeartbeats 4000000 in
theorem drawParseRules (ao : Option Addr) (len cap : Nat) (w : World) (hl : len ≤ 1048576) (hcode : CodeRow w.heap.size w ao len) :
    Calls Tryd.prog 12 #[.slice ao len cap] w fun e w' => ∃ z : ByteArray, z.size ≤ 1048576 ∧ e = .returned (.string z) ∧ Below w.heap.size w w' := by
  go_enter Tryd.func12, Tryd.ntmps12
  go_wp2_with fail
  refine (l1New _ _ _ _ hl hcode).mono ?_
  rintro e wa ⟨B, rfl, hB, ca, ba⟩
  have CA : Hid (Cur w.heap.size B ao len cap wa) := ca
  have za := ba.size
  have hBa := ca.lt
  clear ca hcode
  go_wp2_with fail
  refine (l10Draw _ _ _ _ _ _ CA.out).mono ?_
  rintro e wb ⟨v, l, hrb, rfl, ob, cb, gb⟩
  have CB : Hid (Cur w.heap.size B ao len cap wb) := cb
  have Bb : Below w.heap.size w wb := ba.grown gb za (fun k hk => by cases hk; exact hB)
  have zb := Bb.size
  have hBb := cb.lt
  have CT := hidden (specRulesText l v wb (by have := rules_60 hrb; omega) (rules_sz hrb) ob.row)
  have hts0 := rulesT_le l
  clear cb gb ba ob hrb
  go_wp2_with fail
  refine CT.out.mono ?_
  rintro e wc ⟨rfl, bc⟩
  have CC : Hid (Cur w.heap.size B ao len cap wc) := CB.out.below bc.block
  have Bc : Below w.heap.size w wc := Bb.trans (bc.mono zb)
  have zc := Bc.size
  clear bc Bb CT
  obtain ⟨t, ht⟩ : ∃ t : ByteArray, t = ⟨(rulesT l).toArray⟩ := ⟨_, rfl⟩
  have ht6 : t.size ≤ 36000 := by rw [ht, mk_size]; exact hts0
  rw [← ht]
  clear ht hts0
  obtain ⟨cp, hcp⟩ : ∃ cp, grownCap wc t.size 0 5 = cp := ⟨_, rfl⟩
  have hconv := run_bytes_of_string wc 9 22 5 t Tryd.underlying9 Tryd.underlying22 Tryd.underlying5
  rw [hcp] at hconv
  have hmade := bytesAt_made wc t cp 5
  generalize hC : bytesRow t cp = C at hconv hmade
  clear hC hcp
  have hszm : (wc.alloc (.cells C 5 (C.size, C.size + 1))).heap.size = wc.heap.size + 1 := by simp
  have CM : Hid (Cur w.heap.size B ao len cap (wc.alloc (.cells C 5 (C.size, C.size + 1))).drew) := CC.out.alloc _
  have BM : Hid (Below w.heap.size w (wc.alloc (.cells C 5 (C.size, C.size + 1))).drew) := (Bc.alloc zc _).drew
  have hBc := CC.out.lt
  go_wp2_with fail
  refine (l1Below 4 _ _ _ _ _ _ (by omega) (by omega) CM.out).mono ?_
  rintro e wd ⟨x, hx0, hx1, rfl, cd, gd⟩
  have CD : Hid (Cur w.heap.size B ao len cap wd) := cd
  have hBd := cd.lt
  have AD : Hid (bytesAt wd wc.heap.size t.data.toList) := bytes_grow (W := (wc.alloc (.cells C 5 (C.size, C.size + 1))).drew) hmade gd (by show wc.heap.size < (wc.alloc (.cells C 5 (C.size, C.size + 1))).heap.size; omega) (by intro h; injection h with h; omega)
  have BD : Hid (Below w.heap.size w wd) := BM.out.grown gd BM.out.size (fun k hk => by cases hk; exact hB)
  have zd := BD.out.size
  have hgd : wc.heap.size < wd.heap.size := by
    have := gd.size
    have : (wc.alloc (.cells C 5 (C.size, C.size + 1))).heap.size ≤ wd.heap.size := this
    omega
  clear cd gd hmade hconv BM CM hszm
  have hts : t.data.toList.length = t.size := by simp
  have HTS : Hid (t.data.toList.length ≤ 1048576) := by show _ ≤ _; omega
  by_cases h0 : x = 0
  · subst h0
    go_wp2_with fail
    refine (l1StrX 20 11 _ 11 0 _ _ _ _ _ _ _ (by omega) (by omega) (CD.out.alloc _) (World.ownsRow_lit wd _ 11 (Nat.zero_le _) (by decide) rfl) (by omega) (by decide)).mono ?_
    rintro e we ⟨y, hy, rfl, ce, ge⟩
    have Be : Below w.heap.size w we := (BD.out.alloc zd _).grown ge (by simp; omega) (fun k hk => by cases hk; exact hB)
    clear ce ge
    go_wp2_with fail
    go_ret
    exact ⟨y, by omega, rfl, Be⟩
  · have hx0' : (x == 0) = false := by simpa using h0
    by_cases h1 : x = 1
    · subst h1
      by_cases ht : t.size = 0
      · have hti : ¬ 0 < (t.size : Int) := by omega
        have HO := run_string_at (P := Tryd.prog) wd 22 9 5 Tryd.underlying22 Tryd.underlying5 Tryd.underlying9 (n := t.size) (cap := cp) hts AD.out
        clear ht h0
        go_wp2_with fail
        go_ret
        exact ⟨_, by rw [mk_size]; exact HTS.out, rfl, BD.out⟩
      · have hti : 0 < (t.size : Int) := by omega
        have htl : (t.size : Int) ≤ 1099511627776 := by omega
        clear ht h0
        go_wp2_with fail
        refine (l1Below (t.size : Int) _ _ _ _ _ _ (by omega) htl CD.out).mono ?_
        rintro e we ⟨y, hy0, hy1, rfl, ce, ge⟩
        have CE : Hid (Cur w.heap.size B ao len cap we) := ce
        have hBe := ce.lt
        have AE : Hid (bytesAt we wc.heap.size t.data.toList) := bytes_grow AD.out ge hgd (by intro h; injection h with h; omega)
        have BE : Hid (Below w.heap.size w we) := BD.out.grown ge zd (fun k hk => by cases hk; exact hB)
        have ze := BE.out.size
        have hge : wc.heap.size < we.heap.size := Nat.lt_of_lt_of_le hgd ge.size
        clear ce ge
        obtain ⟨j, rfl⟩ := Int.eq_ofNat_of_zero_le hy0
        go_wp2_with fail
        refine (l1IntX 6 _ 6 0 _ _ _ _ _ _ _ (by omega) (by omega) (CE.out.alloc _) (World.ownsRow_lit we _ 6 (Nat.zero_le _) (by decide) rfl) (by omega) rfl).mono ?_
        rintro e wf ⟨z, rfl, cf, gf⟩
        have AF : Hid (bytesAt wf wc.heap.size t.data.toList) := bytes_grow (bytes_grow AE.out (World.grownBy_alloc we _ none) hge (by simp)) gf (by simp; omega) (by intro h; injection h with h; omega)
        have BF : Hid (Below w.heap.size w wf) := (BE.out.alloc ze _).grown gf (by simp; omega) (fun k hk => by cases hk; exact hB)
        clear cf gf
        have hj : j < t.data.toList.length := by omega
        obtain ⟨cj, fj⟩ := AF.out j hj
        have HO := run_string_at (P := Tryd.prog) (wf.setCell ⟨wc.heap.size, j, none⟩ (.int .u8 (z % 256))) 22 9 5 Tryd.underlying22 Tryd.underlying5 Tryd.underlying9 (n := t.size) (cap := cp) (by rw [List.length_set]; exact hts) (AF.out.set j hj (UInt8.ofNat (z % 256).toNat) (byte_of z))
        have BG : Hid (Below w.heap.size w (wf.setCell ⟨wc.heap.size, j, none⟩ (.int .u8 (z % 256)))) := BF.out.setCell (p := ⟨wc.heap.size, j, none⟩) zc _
        generalize t.data.toList[j] = c0 at cj
        clear hts hj
        go_wp2_with fail
        go_ret
        exact ⟨_, by rw [mk_size, List.length_set]; exact HTS.out, rfl, BG.out⟩
    · have HO := run_string_at (P := Tryd.prog) wd 22 9 5 Tryd.underlying22 Tryd.underlying5 Tryd.underlying9 (n := t.size) (cap := cp) hts AD.out
      have hx1' : (x == 1) = false := by simpa using h1
      clear h0 h1
      go_wp2_with fail
      go_ret
      exact ⟨_, by rw [mk_size]; exact HTS.out, rfl, BD.out⟩
end Go.Proofs.YtijliddchoehhaaDoor
