/- 'append' of a row of tokens; the contract of the specification's Tokens. -/
import Derived.Test.YtjdmmmohaiiocaaDoorRows
import Derived.Test.YtjdmmmohaiiocaaDoorTokSpec5
import Derived.Laws.OwnMore
import Derived.Maps.AppendAt
namespace Go.Proofs.YtjdmmmohaiiocaaDoor
open Go.RowKit
set_option linter.unusedVariables false

theorem run_append_noneT {P : Program} (w : World) (base : Nat) (t ty e : TypeId) (i : TypeInfo) (size : Nat) (ht : P.underlying t = some (.slice e)) (hi : P.info? e = some i)
    (v : Value) (n c : Nat) (xs : List Value) (hown : w.ownsRow base e size v n xs) :
    (Builtin.append_ #[t, t] ty #[v, .slice none 0 c]).run P w = .ok v w := by
  rcases hown.2 with ⟨rfl, rfl⟩ | ⟨g, cap, cur, rfl, _, _, hnc, _⟩
  · simp [Builtin.append_, run_underlying ht, sizeOf, typeInfo, hi, Builtin.lenOf, Builtin.firstCells]
  · simp [Builtin.append_, run_underlying ht, sizeOf, typeInfo, hi, Builtin.lenOf, Builtin.firstCells, hnc, storeCells]
/-- 'append(out, tokens...)': a row of tokens, wherever it lies, behind tokens that the call owns. -/
theorem wpList_append_toks {P : Program} {w : World} {ops : Array Oper} {rest : List Oper} {o : Oper} {a : Act} {Q : Exit → Act → World → Prop}
    (hgd : o.guard = none) (s x : Operand) (t : TypeId) (hop : o.op = .call { callee := .builtin .append, args := #[s, x], argTypes := #[t, t] })
    (B : Nat) (e : TypeId) (z : Value) (bytes : Nat) (ht : P.underlying t = some (.slice e)) (hinfo : (P.info? e).map (fun i => (i.zero, i.size, i.bytes)) = some (some z, 2, bytes)) (hz : z.cells.size = 2)
    (v : Value) (m : List TV) (hs : a.eval s = v) (hown : w.ownsRow B e 2 v m.length (tcells m)) (q : Value) (l : List TV) (hx : a.eval x = q) (hq : TokRow w q l)
    (hroom : (m.length + l.length) * bytes ≤ 140737488355328) (hroom' : m.length + l.length ≤ maxLen) (hB : B ≤ w.heap.size)
    (hK : ∀ v' w1, w1.ownsRow B e 2 v' (m ++ l).length (tcells (m ++ l)) → w.grownBy w1 v.ownBlock → (v'.ownBlock = v.ownBlock ∨ v'.ownBlock = some w.heap.size) → wpList P ops Q rest (a.put o.dst v') w1) :
    wpList P ops Q (o :: rest) a w := by
  obtain ⟨i0, hi, hz0, hz1, hz2⟩ := info_parts hinfo
  have main : ∀ ad c, q = .slice (some ad) l.length c → (∀ j u, (tcells l)[j]? = some u → w.cell? (ad.add j) = some u) → wpList P ops Q (o :: rest) a w := fun ad c hqe hc => by
    refine wpList_append_own_at w hgd s x t hop B e i0 z 2 bytes ht hi hz0 hz1 hz2 hz (by decide) v m.length (tcells m) hs hown ad l.length c (tcells l) (hx.trans hqe) (tcells_length l) hc (tcells_one' l) hroom' hroom hB ?_
    intro v' w1 g1 g2 _ g4
    refine hK v' w1 ?_ g2 g4
    rw [List.length_append, tcells_append]
    exact g1
  rcases hq with ⟨rfl, ao, cap, hqe⟩ | ⟨h0, g, off, cap, hqe, hg, hc⟩
  · cases ao with
    | none =>
      refine wpList_plain hgd fun K hKK => ?_
      have hrun := run_append_noneT (P := P) w B t o.type e i0 2 ht hi v m.length cap (tcells m) hown
      unfold Oper.wp
      have hx2 : a.eval x = .slice none 0 cap := hx.trans hqe
      simp [execOp, hop, resolve, invoke, builtin, hs, hx2, hrun, Result.andThen]
      exact hKK _ _ (hK v w (by rw [List.append_nil]; exact hown) ⟨rfl, rfl, rfl, Nat.le_refl _, fun _ _ _ => rfl⟩ (.inl rfl))
    | some ad => exact main ad cap hqe fun j u hj => by simp [tcells] at hj
  · refine main _ _ hqe fun j u hj => ?_
    have hjl : j < l.length * 2 := by
      have := (List.getElem?_eq_some_iff.1 hj).1
      rwa [tcells_length] at this
    rw [Addr.add_lit]
    obtain ⟨e1, e2⟩ := tcells_at l (j / 2) (by omega)
    obtain ⟨f1, f2⟩ := hc (j / 2) (by omega)
    by_cases hm : j % 2 = 0
    · rw [show j / 2 * 2 = j by omega] at e1 f1
      rw [hj] at e1
      injection e1 with e1
      rw [f1, e1]
    · rw [show j / 2 * 2 + 1 = j by omega] at e2
      rw [show off + j / 2 * 2 + 1 = off + j by omega] at f2
      rw [hj] at e2
      injection e2 with e2
      rw [f2, e2]
theorem step_mark {r : List UInt8} (h : r.head? = some 60) : stepR r = markR r := by unfold stepR; rw [if_pos h]
theorem step_text {r : List UInt8} (h : r.head? ≠ some 60) : stepR r = match unF (upB 60 r) with
    | some t => ⟨[⟨3, bytesV t⟩], (upB 60 r).length, 0⟩
    | none => noMR 2 := by
  unfold stepR
  rw [if_neg h]
  cases unF (upB 60 r) <;> rfl
theorem until60 (c : UInt8) : amongL (⟨#[60]⟩ : ByteArray).data.toList (c.toNat : Int) = !(c != 60) := among_one 60 c
/-- At most two tokens come of a mark. -/
theorem mark_two (r : List UInt8) : (markR r).ts.length ≤ 2 := by
  have h1 : ∀ m, (skipR r m).ts.length ≤ 2 := fun m => by unfold skipR; split <;> exact Nat.zero_le _
  have hs : ∀ r m, (skipR r m).ts.length ≤ 2 := fun r m => by unfold skipR; split <;> exact Nat.zero_le _
  have hc : ∀ r, (cdataR r).ts.length ≤ 2 := fun r => by
    unfold cdataR
    split
    · exact Nat.zero_le _
    split
    · exact Nat.zero_le _
    · exact (by decide : 1 ≤ 2)
  have hcl : ∀ r, (closeR r).ts.length ≤ 2 := fun r => by
    unfold closeR
    split
    · exact Nat.zero_le _
    split
    · exact Nat.zero_le _
    · exact (by decide : 1 ≤ 2)
  have ho : ∀ r, (openR r).ts.length ≤ 2 := fun r => by
    unfold openR
    split
    · exact Nat.zero_le _
    split
    · exact Nat.zero_le _
    · dsimp only
      split
      · exact (by decide : 2 ≤ 2)
      · exact (by decide : 1 ≤ 2)
  unfold markR
  split
  · exact hs _ _
  split
  · exact hs _ _
  split
  · exact hc _
  split
  · exact hcl _
  · exact ho _
/-- Tokens and a code, as two results. -/
def TokB (w : World) (r : List TV × Nat) (e : Ending) (w' : World) : Prop := ∃ v, e = .returned (.tuple #[v, .int .i64 (r.2 : Int)]) ∧ w'.ownsRow w.heap.size 33 2 v r.1.length (tcells r.1) ∧ Below w.heap.size w w'
theorem TokB.same {w : World} {r r' : List TV × Nat} {e : Ending} {w' : World} (h : TokB w r e w') (hr : r = r') : TokB w r' e w' := hr ▸ h
theorem TokB.none {w W : World} {c : Nat} (hb : Below w.heap.size w W) : TokB w ([], c) (.returned (.tuple #[.slice (some ⟨W.heap.size, 0, none⟩) 0 0, .int .i64 (c : Int)])) (W.alloc (.cells #[] 33)) :=
  ⟨_, rfl, World.ownsRow_lit W #[] 0 hb.size (by decide) rfl, hb.alloc hb.size _⟩
set_option maxRecDepth 100000 in
set_option maxHeartbeats 4000000 in
theorem specTokens (s : ByteArray) (w : World) (hs : s.size ≤ 16777216) :
    Calls Tryd.prog 15 #[.string s] w fun e w' => TokB w (toksL s.data.toList) e w' := by
  have hsl : s.data.toList.length = s.size := by simp
  go_enter Tryd.func15, Tryd.ntmps15
  go_wp2_with fail
  go_loopw [4, 5] (fun v i wr => ∃ (k n : Nat) (acc : List TV), k ≤ s.size ∧ i = .int .i64 k ∧ n ≤ 3000 ∧ (∃ ao cap, v = .slice ao n cap) ∧ Hid (acc.length = n) ∧ Hid (wr.ownsRow w.heap.size 33 2 v n (tcells acc)) ∧ Hid (tokG acc (s.data.toList.drop k) = toksL s.data.toList) ∧ Below w.heap.size w wr) (fun _ i _ => s.size - (intOf i).toNat)
  case atStart => exact ⟨0, 0, [], Nat.zero_le _, rfl, Nat.zero_le _, ⟨_, _, rfl⟩, rfl, World.ownsRow_lit w #[] 0 (Nat.le_refl _) (by decide) rfl, rfl, (Below.refl _ _).alloc (Nat.le_refl _) _⟩
  case round =>
    obtain ⟨k, n, acc, hk, rfl, hn, ⟨ao, cap, rfl⟩, HL, HO, HG, hbel⟩ := hrel
    by_cases hlt : k < s.size
    · have hki : (k : Int) < s.size := by omega
      obtain ⟨d, hd⟩ : ∃ d : Nat, (s[k]'hlt).toNat = d := ⟨_, rfl⟩
      have ix := run_at Tryd.prog 9 Tryd.underlying9 s (k : Int) k d hlt rfl hd
      have hdr : s.data.toList.drop k = s[k]'hlt :: s.data.toList.drop (k + 1) := drop_at s k hlt
      have hnil : s.data.toList.drop k ≠ [] := by rw [hdr]; simp
      by_cases h60 : d = 60
      · have hst := step_mark (r := s.data.toList.drop k) (by rw [hdr, List.head?_cons]; exact congrArg some (UInt8.toNat_inj.1 (by rw [hd, h60]; rfl)))
        subst h60
        have CM : Hid (∀ W, Calls Tryd.prog 30 #[.string s, .int .i64 (k : Int)] W fun e w' => TokA W k (stepR (s.data.toList.drop k)) e w') := fun W => by rw [hst]; exact spec13Mark s k W hs hlt
        have h2 : (stepR (s.data.toList.drop k)).ts.length ≤ 2 := by rw [hst]; exact mark_two _
        have HB : Hid ((stepR (s.data.toList.drop k)).code ≠ 0 → toksL s.data.toList = ([], (stepR (s.data.toList.drop k)).code)) := fun hc => by rw [← HG.out]; exact tokG_bad hnil hc
        have HMn : Hid ((stepR (s.data.toList.drop k)).code = 0 → 3000 < n + (stepR (s.data.toList.drop k)).ts.length → toksL s.data.toList = ([], 3)) := fun hc hm => by rw [← HG.out]; exact tokG_many hnil hc (by rw [List.length_append, HL.out]; exact hm)
        have HNx : Hid ((stepR (s.data.toList.drop k)).code = 0 → ¬ 3000 < n + (stepR (s.data.toList.drop k)).ts.length → tokG (acc ++ (stepR (s.data.toList.drop k)).ts) (s.data.toList.drop (k + (stepR (s.data.toList.drop k)).n)) = toksL s.data.toList) := fun hc hm => by
          rw [← HG.out, tokG_next hnil hc (by rw [List.length_append, HL.out]; exact hm), List.drop_drop]
        have HLe : Hid ((stepR (s.data.toList.drop k)).code = 0 → 1 ≤ (stepR (s.data.toList.drop k)).n ∧ k + (stepR (s.data.toList.drop k)).n ≤ s.size) := fun hc => by
          have := step_le hnil hc
          rw [List.length_drop] at this
          omega
        generalize stepR (s.data.toList.drop k) = m at *
        clear hst hdr hnil hd HG
        go_wp2_with fail
        refine (CM.out _).mono ?_
        rintro e w1 ⟨v1, rfl, o1, b1⟩
        have B1 := hbel.trans (b1.mono hbel.size)
        have O1 : Hid (w1.ownsRow w.heap.size 33 2 (.slice ao n cap) n (tcells acc)) := own_below HO.out b1
        have T1 : Hid (TokRow w1 v1 m.ts) := TokRow.of_own' o1
        obtain ⟨bo, bc, rfl⟩ := T1.out.slice
        clear o1 b1 hbel HO
        by_cases hc : m.code = 0
        · have hci : (((m.code : Int)) != 0) = false := bne_eq_false_iff_eq.2 (by omega)
          have hnx : nxt k m = (k : Int) + m.n := by unfold nxt; rw [if_pos hc]; omega
          have hle := HLe.out hc
          have HMn2 : Hid (3000 < n + m.ts.length → toksL s.data.toList = ([], 3)) := HMn.out hc
          have HNx2 : Hid (¬ 3000 < n + m.ts.length → tokG (acc ++ m.ts) (s.data.toList.drop (k + m.n)) = toksL s.data.toList) := HNx.out hc
          have oA : w1.ownsRow w.heap.size 33 2 (.slice ao n cap) acc.length (tcells acc) := by rw [HL.out]; exact O1.out
          have hAl : acc.length = n := HL.out
          have hroom : acc.length + m.ts.length ≤ 3002 := by omega
          clear hc HB HMn HNx HLe CM O1 hAl
          go_wp2_with (at_builtin; refine wpList_append_toks rfl _ _ 28 rfl w.heap.size 33 (.agg #[.int .i64 0, .string ⟨#[]⟩]) 24 Tryd.underlying28 Tryd.infoTk rfl _ acc rfl oA _ m.ts rfl T1.out (by omega) (by unfold maxLen; omega) B1.size ?_)
          intro v2 w2 o2 g2 _
          have B2 : Below w.heap.size w w2 := B1.grown g2 B1.size (fun b hb => (oA.lt b hb).1)
          rw [← List.length_append] at o2
          obtain ⟨co, cc, rfl⟩ := (TokRow.of_own' o2).slice
          have hll : (acc ++ m.ts).length = n + m.ts.length := by rw [List.length_append, HL.out]
          rw [hll] at o2 ⊢
          have O2 : Hid (w2.ownsRow w.heap.size 33 2 (.slice co (n + m.ts.length) cc) (n + m.ts.length) (tcells (acc ++ m.ts))) := o2
          have HL2 : Hid ((acc ++ m.ts).length = n + m.ts.length) := hll
          clear o2 g2 oA hll
          obtain ⟨q, hq⟩ : ∃ q, n + m.ts.length = q := ⟨_, rfl⟩
          rw [hq] at O2 HL2 HMn2 HNx2 ⊢
          by_cases hmany : 3000 < q
          · have hmi : 3000 < (q : Int) := by omega
            have HE : Hid (([], 3) = toksL s.data.toList) := (HMn2.out hmany).symm
            clear HMn2 HNx2 hq
            go_wp2_with fail
            go_ret2
            exact (TokB.none B2).same HE.out
          · have hmi : ¬ 3000 < (q : Int) := by omega
            have HG2 := HNx2.out hmany
            have HG3 : Hid (tokG (acc ++ m.ts) (s.data.toList.drop (k + m.n)) = toksL s.data.toList) := HG2
            clear HMn2 HNx2 HG2 hq
            go_wp2_with fail
            go_roundw
            case rel => exact ⟨k + m.n, q, _, by omega, by go_num, by omega, ⟨_, _, rfl⟩, HL2, O2, HG3, B2⟩
            case measure => simp [intOf] <;> omega
        · have hci : (((m.code : Int)) != 0) = true := bne_iff_ne.2 (by omega)
          have HE : Hid (([], m.code) = toksL s.data.toList) := (HB.out hc).symm
          clear HB HMn HNx HLe CM O1
          go_wp2_with fail
          go_ret2
          exact (TokB.none B1).same HE.out
      · have hst := step_text (r := s.data.toList.drop k) (by rw [hdr, List.head?_cons]; exact fun e => h60 (by rw [← hd, Option.some.inj e]; rfl))
        have h60i : ((d : Int) == 60) = false := beq_eq_false_iff_ne.2 (by omega)
        have hdd : (s.extract k s.size).data.toList = s.data.toList.drop k := drop_data s k
        have hes : (s.extract k s.size).size ≤ 16777216 := by simp; omega
        have CU := fun W => specUntil (fun c => c != 60) ⟨#[60]⟩ (s.extract k s.size) W (by decide) until60 hes
        rw [hdd] at CU
        obtain ⟨R, hR⟩ : ∃ R, s.data.toList.drop k = R := ⟨_, rfl⟩
        have hRl : R.length + k = s.size := by rw [← hR, List.length_drop]; omega
        rw [hR] at CU hst hnil HG
        obtain ⟨nm, hnm⟩ : ∃ nm : ByteArray, (⟨(R.takeWhile fun c => c != 60).toArray⟩ : ByteArray) = nm := ⟨_, rfl⟩
        obtain ⟨rs, hrs⟩ : ∃ rs : ByteArray, (⟨(R.dropWhile fun c => c != 60).toArray⟩ : ByteArray) = rs := ⟨_, rfl⟩
        rw [hnm, hrs] at CU
        have HCU : Hid (∀ W, Calls Tryd.prog 31 #[.string (s.extract k s.size), .string ⟨#[60]⟩] W fun e w' => e = .returned (.tuple #[.string nm, .string rs]) ∧ Below W.heap.size W w') := CU
        have hnd : nm.data.toList = upB 60 R := by rw [← hnm]; rfl
        have hns : nm.size = (upB 60 R).length := by rw [← hnd]; simp
        have hnle : nm.size ≤ R.length := by rw [hns]; exact (List.takeWhile_sublist _).length_le
        have CN : Hid (∀ W, Calls Tryd.prog 20 #[.string nm] W fun e w' => e = .returned (unA (unF (upB 60 R))) ∧ Below W.heap.size W w') := fun W => by rw [← hnd]; exact specUnescape nm W (by omega)
        cases hu : unF (upB 60 R) with
        | none =>
          rw [hu] at hst CN
          have HE : Hid (([], 2) = toksL s.data.toList) := by
            have h1 := tokG_bad (acc := acc) hnil (by rw [hst]; show (2 : Nat) ≠ 0; decide)
            show _ = _
            rw [← HG.out, h1, hst]
            rfl
          clear hst hdd CU hR hnm hrs hnd hns hdr hd HG hnil hu
          go_wp2_with fail
          refine (HCU.out _).mono ?_
          rintro e w1 ⟨rfl, b1⟩
          have B1 := hbel.trans (b1.mono hbel.size)
          clear b1 hbel
          go_wp2_with fail
          refine (CN.out _).mono ?_
          rintro e w2 ⟨rfl, b2⟩
          have B2 := B1.trans (b2.mono B1.size)
          clear b2 B1
          rw [show unA none = .tuple #[.string ⟨#[]⟩, .bool false] from rfl]
          go_wp2_with fail
          go_ret2
          exact (TokB.none B2).same HE.out
        | some t =>
          rw [hu] at hst CN
          have hst2 : stepR R = ⟨[⟨3, bytesV t⟩], nm.size, 0⟩ := by rw [hst, hns]
          have hle0 := step_le hnil (by rw [hst2])
          rw [hst2] at hle0
          have hle : 1 ≤ nm.size ∧ k + nm.size ≤ s.size := by
            have : 1 ≤ nm.size := hle0.1
            omega
          have HMn2 : Hid (3000 < n + ([⟨3, bytesV t⟩] : List TV).length → toksL s.data.toList = ([], 3)) := fun hm => by
            rw [← HG.out]
            exact tokG_many hnil (by rw [hst2]) (by rw [hst2, List.length_append, HL.out]; exact hm)
          have HNx2 : Hid (¬ 3000 < n + ([⟨3, bytesV t⟩] : List TV).length → tokG (acc ++ [⟨3, bytesV t⟩]) (s.data.toList.drop (k + nm.size)) = toksL s.data.toList) := fun hm => by
            rw [← HG.out, tokG_next hnil (by rw [hst2]) (by rw [hst2, List.length_append, HL.out]; exact hm), hst2, ← hR, List.drop_drop]
          clear hst hdd CU hR hnm hrs hnd hns hdr hd HG hnil hu hst2 hle0
          rw [show unA (some t) = .tuple #[.string (bytesV t), .bool true] from rfl] at CN
          generalize bytesV t = tb at *
          go_wp2_with fail
          refine (HCU.out _).mono ?_
          rintro e w1 ⟨rfl, b1⟩
          have B1 := hbel.trans (b1.mono hbel.size)
          have O1 : Hid (w1.ownsRow w.heap.size 33 2 (.slice ao n cap) n (tcells acc)) := own_below HO.out b1
          clear b1 hbel HO
          go_wp2_with fail
          refine (CN.out _).mono ?_
          rintro e wu ⟨rfl, b2⟩
          have BU := B1.trans (b2.mono B1.size)
          have oA : wu.ownsRow w.heap.size 33 2 (.slice ao n cap) n (tcells acc) := own_below O1.out b2
          clear b2 B1 O1
          go_wp2_with (at_builtin; refine wpList_append_rule _ rfl _ _ 28 rfl w.heap.size 33 (.agg #[.int .i64 0, .string ⟨#[]⟩]) 24 Tryd.underlying28 Tryd.infoTk rfl _ _ _ rfl oA (.int .i64 3) (.string tb) rfl rfl rfl (by omega) (by unfold maxLen; omega) BU.size ?_)
          intro v2 w2 o2' g2 _
          have B2 : Below w.heap.size w w2 := BU.grown g2 BU.size (fun b hb => (oA.lt b hb).1)
          have o2 : w2.ownsRow w.heap.size 33 2 v2 (acc ++ [(⟨3, tb⟩ : TV)]).length (tcells (acc ++ [(⟨3, tb⟩ : TV)])) := by
            rw [List.length_append, tcells_append, HL.out]
            exact o2'
          clear o2'
          obtain ⟨co, cc, rfl⟩ := (TokRow.of_own' o2).slice
          have hll : (acc ++ [(⟨3, tb⟩ : TV)]).length = n + [(⟨3, tb⟩ : TV)].length := by rw [List.length_append, HL.out]
          rw [hll] at o2 ⊢
          have O2 : Hid (w2.ownsRow w.heap.size 33 2 (.slice co (n + [(⟨3, tb⟩ : TV)].length) cc) (n + [(⟨3, tb⟩ : TV)].length) (tcells (acc ++ [(⟨3, tb⟩ : TV)]))) := o2
          have HL2 : Hid ((acc ++ [(⟨3, tb⟩ : TV)]).length = n + [(⟨3, tb⟩ : TV)].length) := hll
          clear o2 g2 oA hll
          obtain ⟨q, hq⟩ : ∃ q, n + [(⟨3, tb⟩ : TV)].length = q := ⟨_, rfl⟩
          rw [hq] at O2 HL2 HMn2 HNx2 ⊢
          by_cases hmany : 3000 < q
          · have hmi : 3000 < (q : Int) := by omega
            have HE : Hid (([], 3) = toksL s.data.toList) := (HMn2.out hmany).symm
            clear HMn2 HNx2 hq
            go_wp2_with fail
            go_ret2
            exact (TokB.none B2).same HE.out
          · have hmi : ¬ 3000 < (q : Int) := by omega
            have HG2 := HNx2.out hmany
            have HG3 : Hid (tokG (acc ++ [(⟨3, tb⟩ : TV)]) (s.data.toList.drop (k + nm.size)) = toksL s.data.toList) := HG2
            clear HMn2 HNx2 HG2 hq
            go_wp2_with fail
            go_roundw
            case rel => exact ⟨k + nm.size, q, _, by omega, by go_num, by omega, ⟨_, _, rfl⟩, HL2, O2, HG3, B2⟩
            case measure => simp [intOf] <;> omega
    · have hki : ¬ (k : Int) < s.size := by omega
      have HF : Hid ((acc, 0) = toksL s.data.toList) := by
        have := HG.out
        rwa [List.drop_eq_nil_of_le (by omega), tokG_nil] at this
      have HO2 : Hid (wr.ownsRow w.heap.size 33 2 (.slice ao n cap) acc.length (tcells acc)) := by rw [HL.out]; exact HO.out
      clear HG HO
      go_wp2_with fail
      go_ret2
      exact TokB.same ⟨_, rfl, HO2.out, hbel⟩ HF.out
end Go.Proofs.YtjdmmmohaiiocaaDoor
