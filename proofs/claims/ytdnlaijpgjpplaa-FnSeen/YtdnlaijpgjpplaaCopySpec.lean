/- The contract of the specification's l15Copy. -/
import Derived.Test.YtdnlaijpgjpplaaRows
import Derived.Test.YtdnlaijpgjpplaaPressSpec
namespace Go.Proofs.Ytdnlaijpgjpplaa
open Go.RowKit
set_option linter.unusedVariables false
set_option linter.unusedSimpArgs false

theorem wp_append_crow {P : Program} {w : World} {o : Oper} {a : Act} {K : Act → World → Prop} {Q : Exit → Act → World → Prop}
    (s x : Operand) (t : TypeId) (hop : o.op = .call { callee := .builtin .append, args := #[s, x], argTypes := #[t, t] })
    (B : Nat) (e : TypeId) (z : Value) (size bytes : Nat) (ht : P.underlying t = some (.slice e)) (hinfo : (P.info? e).map (fun i => (i.zero, i.size, i.bytes)) = some (some z, size, bytes)) (hz : z.cells.size = size) (hsz : 0 < size)
    (v : Value) (n : Nat) (xs : List Value) (hs : a.eval s = v) (hown : w.ownsRow B e size v n xs) (q : Value) (m : Nat) (vs : List Value) (hx : a.eval x = q) (hq : CRow w q m size vs)
    (hroom : (n + m) * bytes ≤ 140737488355328) (hroom' : n + m ≤ maxLen) (hB : B ≤ w.heap.size)
    (hK : ∀ v' w1, w1.ownsRow B e size v' (n + m) (xs ++ vs) → w.grownBy w1 v.ownBlock → (v'.ownBlock = v.ownBlock ∨ v'.ownBlock = some w.heap.size) → K (a.put o.dst v') w1) :
    Oper.wp P o a w K Q := by
  obtain ⟨i0, hi, hz0, hz1, hz2⟩ := info_parts hinfo
  have main : ∀ ad c, q = .slice (some ad) m c → (∀ j u, vs[j]? = some u → w.cell? (ad.add j) = some u) → Oper.wp P o a w K Q := fun ad c hqe hc => by
    obtain ⟨v', w', hr, h2, h3, h4, h5⟩ := run_append_own_at (P := P) w B t o.type e i0 z size bytes ht hi hz0 hz1 hz2 hz hsz v n xs hown ad m c vs hq.1.1 hc hq.1.2 hroom' hroom hB
    unfold Oper.wp execOp
    simp only [hop, resolve, invoke, builtin, Sem.run_bind, Sem.run_pure, Result.andThen_ok, List.map_toArray, List.map_cons, List.map_nil, hs, hx.trans hqe, hr]
    exact hK v' w' h2 h3 h5
  rcases hq.2 with ⟨h0, ao, cap, hqe⟩ | ⟨g, off, c, hqe, hg, hc⟩
  · subst h0
    have hv0 : vs = [] := List.eq_nil_of_length_eq_zero (by rw [hq.1.1, Nat.zero_mul])
    subst hv0
    cases ao with
    | none =>
      have hrun := run_append_noneC (P := P) w B t o.type e i0 size ht hi v n cap xs hown
      have hx2 : a.eval x = .slice none 0 cap := hx.trans hqe
      unfold Oper.wp
      simp [execOp, hop, resolve, invoke, builtin, hs, hx2, hrun, Result.andThen]
      exact hK v w (by rw [List.append_nil]; exact hown) ⟨rfl, rfl, rfl, Nat.le_refl _, fun _ _ _ => rfl⟩ (.inl rfl)
    | some ad => exact main ad cap hqe fun j u hj => by simp at hj
  · exact main _ c hqe fun j u hj => by rw [Addr.add_lit]; exact hc j u hj
theorem seen_resultS {fn : Func} {q : Tmp} (h : fn.results = #[.cell q 27]) (tmps : Array Value) (W : World) (B : Nat) (a b : Value)
    (hp : tmps[q]?.getD undef = .pointer (some ⟨B, 0, none⟩)) (ha : BAt W B [a, b]) : (results fn tmps).run Try.prog W = .ok (.agg #[a, b]) W := by
  have c0 := ha.1 0 _ rfl
  have c1 := ha.1 1 _ rfl
  simp [results, h, hp, asAddr, go_sem, c0, c1, Addr.add_lit]
set_option maxRecDepth 100000 in
set_option maxHeartbeats 4000000 in
theorem specCopy (m : List EV) (ll : List (List EV)) (p q : Value) (w : World) (hm : m.length ≤ 1048576) (hn : ll.length ≤ 1048576) (hf : ∀ i, i < ll.length → (ll.getD i []).length ≤ 1048576) (hp : EntRow w p m) (hq : RunRow w q ll) :
    Calls Try.prog 26 #[.agg #[p, q]] w fun e w' => ∃ p' q', e = .returned (.agg #[p', q']) ∧ w'.ownsRow w.heap.size 35 2 p' m.length (ecells m) ∧ RunOwn w' w.heap.size w'.heap.size q' ll ∧ Below w.heap.size w w' := by
  obtain ⟨O, hO⟩ : ∃ O, O = (w.alloc (.cells #[p, q] 27)).alloc (.cells #[.slice none 0 0, .slice none 0 0] 27) := ⟨_, rfl⟩
  have bO : Below w.heap.size w O := by rw [hO]; exact ((Below.refl _ _).alloc (Nat.le_refl _) _).alloc (by simp) _
  have hzO : w.heap.size + 2 ≤ O.heap.size := by rw [hO]; simp
  have A0 : BAt O w.heap.size [p, q] := by rw [hO]; exact (BAt.new w #[p, q] _).alloc _
  have A1 : BAt O (w.heap.size + 1) [.slice none 0 0, .slice none 0 0] := by
    rw [hO]
    have := BAt.new (w.alloc (.cells #[p, q] 27)) #[.slice none 0 0, .slice none 0 0] 27
    rwa [World.size_alloc] at this
  have HB : Hid (∀ W, Below O.heap.size O W → Below w.heap.size w W ∧ BAt W w.heap.size [p, q] ∧ BAt W (w.heap.size + 1) [.slice none 0 0, .slice none 0 0]) := fun W hW => ⟨bO.trans (hW.mono bO.size), A0.below hW, A1.below hW⟩
  have HP := hidM (hp.below ((bO.alloc bO.size (.cells #[] 35)))).crow
  have HQ := hidM hq
  have HF := hidM hf
  obtain ⟨pa, pc, hpe⟩ := hp.slice
  obtain ⟨qa, qc, hqe⟩ := hq.slice
  subst hpe hqe
  have c0 := (A0.alloc (.cells #[] 35)).1 0 _ rfl
  clear hp hq hf A0 A1
  have OW0 : Hid ((O.alloc (.cells #[] 35)).ownsRow O.heap.size 35 2 (.slice (some ⟨O.heap.size, 0, none⟩) 0 0) 0 []) := hidM (World.ownsRow_lit O #[] 0 (Nat.le_refl _) (Nat.zero_le _) rfl)
  have BW0 : Below O.heap.size O (O.alloc (.cells #[] 35)) := (Below.refl _ _).alloc (Nat.le_refl _) _
  go_enter Try.func26, Try.ntmps26
  go_upto_region 1 with fail
  rw [← hO]
  clear hO
  go_wp2_with (at_builtin; refine wpList_append_crow rfl _ _ 24 rfl O.heap.size 35 (.agg #[.string ⟨#[]⟩, .int .i64 0]) 2 24 Try.underlying24 Try.infoMk rfl (by decide) _ 0 [] rfl OW0.out _ m.length (ecells m) rfl HP.out (by omega) (by unfold maxLen; omega) BW0.size ?_)
  intro vm w1 o1 g1 _
  have B1 : Below O.heap.size O w1 := BW0.grown g1 BW0.size (fun b hb => (OW0.out.lt b hb).1)
  have O1 : Hid (w1.ownsRow O.heap.size 35 2 vm m.length (ecells m)) := hidM (by simpa using o1)
  obtain ⟨ma, mc, hme⟩ := (EntRow.of_own' O1.out).slice
  subst hme
  clear o1 g1 OW0 BW0 HP c0
  obtain ⟨U, hU⟩ : ∃ U, U = w1.alloc (.cells #[.slice ma m.length mc, .slice none 0 0] 27) := ⟨_, rfl⟩
  have AU : BAt U w1.heap.size [.slice ma m.length mc, .slice none 0 0] := by rw [hU]; exact BAt.new w1 #[.slice ma m.length mc, .slice none 0 0] _
  have BU : Below O.heap.size O U := by rw [hU]; exact B1.alloc B1.size _
  have OU : Hid (U.ownsRow O.heap.size 35 2 (.slice ma m.length mc) m.length (ecells m)) := hidM (by rw [hU]; exact O1.out.alloc _)
  have hmD : ∀ b, (Value.slice ma m.length mc).ownBlock = some b → b < w1.heap.size := fun b hb => (O1.out.lt b hb).2
  have hOD : O.heap.size ≤ w1.heap.size := B1.size
  have hDU : w1.heap.size < U.heap.size := AU.2.2
  have I0 : Hid (InR U (w1.heap.size + 1) U.heap.size (.slice none 0 0) [] ll 0) := hidM ⟨(fun i hi => absurd hi (Nat.not_lt_zero _)), (fun a x ha => absurd ha (Nat.not_lt_zero _)), fun b hb => by cases hb⟩
  have N0 : Hid (U.ownsRow (w1.heap.size + 1) 24 1 (.slice none 0 0) 0 []) := hidM (World.ownsRow_nil _ _ _ _)
  go_upto_region 3 with fail
  rw [← hU]
  clear hU O1 B1
  generalize w1.heap.size = D at *
  obtain ⟨vm, hvm⟩ : ∃ vm, vm = Value.slice ma m.length mc := ⟨_, rfl⟩
  go_loopw [4] (fun i wr => ∃ (k : Nat) (v : Value) (xs : List Value), k ≤ ll.length ∧ i = .int .i64 k ∧ BAt wr D [.slice ma m.length mc, v] ∧ Hid (wr.ownsRow (D + 1) 24 1 v k xs) ∧ Hid (InR wr (D + 1) wr.heap.size v xs ll k) ∧ Hid (wr.ownsRow O.heap.size 35 2 (.slice ma m.length mc) m.length (ecells m)) ∧ Below O.heap.size O wr) (fun i _ => ll.length - (intOf i).toNat)
  case atStart => exact ⟨0, _, [], Nat.zero_le _, rfl, AU, N0, I0, OU, BU⟩
  case round =>
    clear N0 I0 OU BU AU
    obtain ⟨k, v, xs, hk, rfl, AD, HO, HI, HM, hbO⟩ := hrel
    obtain ⟨hbel, AW, AR⟩ := HB.out _ hbO
    have e1 := AW.1 1 _ rfl
    by_cases hlt : k < ll.length
    · have hki : (k : Int) < ll.length := by omega
      rcases HQ.out with ⟨h0, _⟩ | ⟨h0, g, off, cap, hv, hg, hc⟩
      · exact absurd hlt (by rw [h0]; exact Nat.not_lt_zero _)
      · injection hv with hv1 hv2 hv3
        subst hv1 hv3
        obtain ⟨x, d1, d2⟩ := hc k hlt
        have hxl := HF.out k hlt
        have D1 := hidM d1
        have hDr : D < wr.heap.size := AD.2.2
        have HXC : Hid (CRow (wr.drew.alloc (.cells #[] 35)) x (ll.getD k []).length 2 (ecells (ll.getD k []))) := hidM ((d2.below (hbel.drew.alloc hbel.size _)).crow)
        have HE : Hid ((wr.drew.alloc (.cells #[] 35)).ownsRow (D + 1) 35 2 (.slice (some ⟨wr.heap.size, 0, none⟩) 0 0) 0 []) := hidM (World.ownsRow_lit wr.drew #[] 0 (by show D + 1 ≤ wr.heap.size; omega) (Nat.zero_le _) rfl)
        obtain ⟨XN, hXN⟩ : ∃ n, (ll.getD k []).length = n := ⟨_, rfl⟩
        rw [hXN] at HXC hxl
        have HXN := hidM hXN
        clear hc d1 d2 hv2 hXN
        go_upto_region 5 with fail
        refine wp_region_held_drew (S := fun W => (∃ u, BAt W D [.slice ma m.length mc, u]) ∧ Below O.heap.size O W) (by kernel_rfl) ⟨⟨v, AD.below (Below.refl _ _).drew⟩, hbO.drew⟩ (fun h0 => ?_)
        have AX := AD.below ((Below.refl _ wr).drew)
        have BX := hbO.drew
        refine wpAnyH_take (i := 0) (v := ?_) rfl (by kernel_rfl) (by kernel_rfl) (by kernel_rfl) (fun _ _ _ h => h) (Or.inl ⟨by rfl, fun W hW => ?_⟩) h0 ?_
        rotate_left
        · clear hW
          go_simp
          try with_reducible rfl
        simp only [Act.put, List.getElem_toArray, List.getElem_cons_zero, List.getElem_cons_succ, List.setIfInBounds_toArray, List.set_cons_zero, List.set_cons_succ]
        refine wpAnyH_take (i := 3) (v := ?_) rfl (by kernel_rfl) (by kernel_rfl) (by kernel_rfl) (fun _ _ _ h => h) (Or.inl ⟨by rfl, fun W hW => ?_⟩) h0 ?_
        rotate_left
        · clear hW
          go_simp
          try with_reducible rfl
        simp only [Act.put, List.getElem_toArray, List.getElem_cons_zero, List.getElem_cons_succ, List.setIfInBounds_toArray, List.set_cons_zero, List.set_cons_succ]
        refine wpAnyH_take (i := 4) (v := .slice (some ⟨g, off, none⟩) ll.length (ll.length + cap)) rfl (by kernel_rfl) (by kernel_rfl) (by kernel_rfl) (fun _ _ _ h => h) (Or.inl ⟨by rfl, fun W hW => ?_⟩) h0 ?_
        · have q0 := (HB.out W hW.2).2.1.1 1 _ rfl
          go_simp
        simp only [Act.put, List.getElem_toArray, List.getElem_cons_zero, List.getElem_cons_succ, List.setIfInBounds_toArray, List.set_cons_zero, List.set_cons_succ]
        refine wpAnyH_take (i := 5) (v := ?_) rfl (by kernel_rfl) (by kernel_rfl) (by kernel_rfl) (fun _ _ _ h => h) (Or.inl ⟨by rfl, fun W hW => ?_⟩) h0 ?_
        rotate_left
        · clear hW
          go_simp
          try with_reducible rfl
        simp only [Act.put, List.getElem_toArray, List.getElem_cons_zero, List.getElem_cons_succ, List.setIfInBounds_toArray, List.set_cons_zero, List.set_cons_succ]
        refine wpAnyH_take (i := 6) (v := ?_) rfl (by kernel_rfl) (by kernel_rfl) (by kernel_rfl) (fun _ _ _ h => h) (Or.inl ⟨by rfl, fun W hW => ?_⟩) h0 ?_
        rotate_left
        · clear hW
          go_simp
          try with_reducible rfl
        simp only [Act.put, List.getElem_toArray, List.getElem_cons_zero, List.getElem_cons_succ, List.setIfInBounds_toArray, List.set_cons_zero, List.set_cons_succ]
        refine wpAnyH_take (i := 7) (v := x) rfl (by kernel_rfl) (by kernel_rfl) (by kernel_rfl) (fun _ _ _ h => h) (Or.inl ⟨by rfl, fun W hW => ?_⟩) h0 ?_
        · have q0 := ((HB.out W hW.2).1.cell (p := ⟨g, off + k, none⟩) hg).trans D1.out
          go_simp
        simp only [Act.put, List.getElem_toArray, List.getElem_cons_zero, List.getElem_cons_succ, List.setIfInBounds_toArray, List.set_cons_zero, List.set_cons_succ]
        clear h0
        refine wpAnyH_ready (rs := [1, 2]) (by kernel_rfl) (by simp) (AllReadyH.cons rfl (fun K hK => ?_) (AllReadyH.cons rfl (fun K hK => ?_) AllReadyH.nil))
        · have cD := AX.1 1 _ rfl
          have cDa := (AD.alloc (.cells #[] 35)).1 1 _ rfl
          have cDb := AD.1 1 _ rfl
          go_simp
          refine hK.out _ _ ⟨⟨v, AX⟩, BX⟩ (fun hs => ?_)
          clear hK K hs cD cDa cDb
          refine wpAnyH_ready (rs := [2]) (by kernel_rfl) (by simp) (AllReadyH.cons rfl (fun K hK => ?_) AllReadyH.nil)
          go_simp
          refine hK.out _ _ ⟨⟨v, AX.alloc _⟩, BX.alloc BX.size _⟩ (fun h1 => ?_)
          clear hK K h1
          have AY := AX.alloc (.cells #[] 35)
          have BY : Below O.heap.size O (wr.drew.alloc (.cells #[] 35)) := BX.alloc BX.size _
          clear AX BX
          have AX := AY
          have BX := BY
          clear AY BY
          refine wpAnyH_ready (rs := [8]) (by kernel_rfl) (by simp) (AllReadyH.cons rfl (fun K hK => ?_) AllReadyH.nil)
          rw [if_pos (by rfl)]
          refine wp_append_crow (.tmp 19) (.tmp 24) 24 rfl (D + 1) 35 (.agg #[.string ⟨#[]⟩, .int .i64 0]) 2 24 Try.underlying24 Try.infoMk rfl (by decide) _ 0 [] rfl HE.out _ XN (ecells (ll.getD k [])) rfl HXC.out (by omega) (by unfold maxLen; omega) (by simp; omega) ?_
          intro x2 w2 o2 g2 hx2
          have g2b : ∀ b, b < wr.heap.size → w2.heap[b]? = wr.heap[b]? := fun b hb => (g2.block b (by simp; omega) (fun e => by injection e with e; have e' : b = wr.heap.size := e; omega)).trans (Below.heap_alloc wr.drew _ b hb)
          have g2s : wr.heap.size + 1 ≤ w2.heap.size := by have := g2.size; simpa using this
          have AY : BAt w2 D [.slice ma m.length mc, v] := AX.same g2.size (g2.block D AX.2.2 (fun e => by injection e with e; have e' : D = wr.heap.size := e; omega))
          have BY : Below O.heap.size O w2 := BX.grown g2 BX.size (fun b hb => by cases hb; show O.heap.size ≤ wr.heap.size; omega)
          have OX2 : Hid (w2.ownsRow (D + 1) 35 2 x2 XN (ecells (ll.getD k []))) := hidM (by simpa using o2)
          have HX2 : Hid (∀ b, x2.ownBlock = some b → wr.heap.size ≤ b) := fun b hb => by
            rcases hx2 with e | e
            · rw [e] at hb; injection hb with hb; have e' : wr.heap.size = b := hb; omega
            · rw [e] at hb; injection hb with hb; rw [← hb]; simp
          refine hK.out _ _ ⟨⟨v, AY⟩, BY⟩ (fun h1 => ?_)
          clear hK K h1 o2 g2 hx2 AX BX
          obtain ⟨xa2, xc2, hxe2⟩ : ∃ xa2 xc2, x2 = .slice xa2 XN xc2 := by
            rcases OX2.out.2 with ⟨h, h2⟩ | ⟨g, cap, cur, h, _⟩
            · exact ⟨none, 0, by rw [h, h2]⟩
            · exact ⟨_, _, h⟩
          subst hxe2
          have AX := AY
          have BX := BY
          clear AY BY
          refine wpAnyH_ready (rs := [9]) (by kernel_rfl) (by simp) (AllReadyH.cons rfl (fun K hK => ?_) AllReadyH.nil)
          go_simp
          refine hK.out _ _ ⟨⟨v, AX.alloc _⟩, BX.alloc BX.size _⟩ (fun h1 => ?_)
          clear hK K h1
          have AY := AX.alloc (.cells #[.slice xa2 XN xc2] 24)
          have BY : Below O.heap.size O (w2.alloc (.cells #[.slice xa2 XN xc2] 24)) := BX.alloc BX.size _
          clear AX BX
          have AX := AY
          have BX := BY
          clear AY BY
          refine wpAnyH_ready (rs := [10]) (by kernel_rfl) (by simp) (AllReadyH.cons rfl (fun K hK => ?_) AllReadyH.nil)
          rw [if_pos (by rfl)]
          have OV3 : (w2.alloc (.cells #[.slice xa2 XN xc2] 24)).ownsRow (D + 1) 24 1 v k xs := (own_at HO.out fun b hb => g2b b (HO.out.lt b hb).2).alloc _
          have CR3 : CRow (w2.alloc (.cells #[.slice xa2 XN xc2] 24)) (.slice (some ⟨w2.heap.size, 0, none⟩) 1 1) 1 1 [.slice xa2 XN xc2] := ⟨⟨rfl, by intro u hu; rw [List.mem_singleton.1 hu]; rfl⟩, .inr ⟨w2.heap.size, 0, 1, rfl, by simp, fun jj u hj => by rw [Nat.zero_add]; exact (BAt.new w2 #[.slice xa2 XN xc2] 24).1 jj u hj⟩⟩
          refine wp_append_crow (.tmp 18) (.tmp 26) 25 rfl (D + 1) 24 (.slice none 0 0) 1 24 Try.underlying25 Try.infoRw rfl (by decide) v k xs rfl OV3 _ 1 [.slice xa2 XN xc2] rfl CR3 (by omega) (by unfold maxLen; omega) (by simp; omega) ?_
          intro v4 w4 o4 g4 hv4
          have hvb : ∀ b, v.ownBlock = some b → D + 1 ≤ b ∧ b < wr.heap.size := fun b hb => HO.out.lt b hb
          have g4s : w2.heap.size + 1 ≤ w4.heap.size := by have := g4.size; simpa using this
          have A4 : BAt w4 D [.slice ma m.length mc, v] := AX.same g4.size (g4.block D AX.2.2 (fun e => by have := (hvb D e.symm).1; omega))
          have B4 : Below O.heap.size O w4 := BX.grown g4 BX.size (fun b hb => by have := (hvb b hb).1; omega)
          have hv4b : ∀ b, v4.ownBlock = some b → (v.ownBlock = some b ∨ b = w2.heap.size + 1) := fun b hb => by
            rcases hv4 with e | e
            · exact .inl (by rw [← e]; exact hb)
            · rw [e] at hb; injection hb with hb; exact .inr (by rw [← hb]; simp)
          obtain ⟨va4, vc4, hve4⟩ : ∃ va4 vc4, v4 = .slice va4 (k + 1) vc4 := by
            rcases o4.2 with ⟨h, h2⟩ | ⟨gg, cap, cur, h, _⟩
            · exact absurd h2 (by omega)
            · exact ⟨_, _, h⟩
          obtain ⟨w5, hw5⟩ : ∃ w5, w5 = w4.setCell ⟨D, 1, none⟩ v4 := ⟨_, rfl⟩
          have h5b : ∀ b, b ≠ D → w5.heap[b]? = w4.heap[b]? := fun b hb => by rw [hw5]; exact Below.heap_setCell _ _ _ _ hb
          have h5z : w5.heap.size = w4.heap.size := by rw [hw5]; simp
          have O5 : Hid (w5.ownsRow (D + 1) 24 1 v4 (k + 1) (xs ++ [.slice xa2 XN xc2])) := hidM (own_at o4 fun b hb => h5b b (by have := (o4.lt b hb).1; omega))
          have hxl2 : xs.length = k := by have := HO.out.1; omega
          have I5 : Hid (InR w5 (D + 1) w5.heap.size v4 (xs ++ [.slice xa2 XN xc2]) ll (k + 1)) := hidM (by
            refine HI.out.more (p := .slice xa2 XN xc2) (fun b h1 h2 h3 => ?_) (fun a ha => ?_) (fun _ _ => rfl) ?_ (by omega) ?_ ?_ (fun b e => ?_) (fun b e1 e2 => ?_)
            · rw [h5b b (by omega), g4.block b (by simp; omega) h3, Below.heap_alloc w2 _ b (by omega), g2b b h2]
            · rw [List.getElem?_append_left (by omega)]
            · rcases hv4 with e | e
              · exact .inl e
              · exact .inr fun b hb => by have h1 := (o4.lt b hb).2; rw [e] at hb; injection hb with hb; rw [World.size_alloc] at hb; omega
            · rw [List.getElem?_append_right (by omega), hxl2, Nat.sub_self]; rfl
            · rw [HXN.out]
              refine own_at ((OX2.out.alloc _).kept g4 ?_) (fun b hb => h5b b (by have := HX2.out b hb; omega))
              cases hxb : (Value.slice xa2 XN xc2).ownBlock with
              | none => exact .inl rfl
              | some b => exact .inr fun e => by have h1 := HX2.out b hxb; have h2 := (hvb b e.symm).2; omega
            · have h1 := HX2.out b e; have h2 := (OX2.out.lt b e).2; omega
            · have h1 := HX2.out b e1
              have h3 := (OX2.out.lt b e1).2
              rcases hv4b b e2 with h | h
              · have := (hvb b h).2; omega
              · omega)
          have M5 : Hid (w5.ownsRow O.heap.size 35 2 (.slice ma m.length mc) m.length (ecells m)) := hidM (own_at HM.out fun b hb => by
            have h1 := hmD b hb
            rw [h5b b (by omega), g4.block b (by simp; omega) (fun e => by have := (hvb b e.symm).1; omega), Below.heap_alloc w2 _ b (by omega), g2b b (by omega)])
          refine hK.out _ _ ⟨⟨v, A4⟩, B4⟩ (fun h4 => ?_)
          clear hK K
          refine wpAnyH_take (i := 11) (v := ?_) rfl (by kernel_rfl) (by kernel_rfl) (by kernel_rfl) (fun _ _ _ h => h) (Or.inl ⟨by rfl, fun W hW => ?_⟩) h4 ?_
          rotate_left
          · clear hW
            go_simp
            try with_reducible rfl
          simp only [Act.put, List.getElem_toArray, List.getElem_cons_zero, List.getElem_cons_succ, List.setIfInBounds_toArray, List.set_cons_zero, List.set_cons_succ]
          subst hve4
          have f1 := A4.1 1 _ rfl
          have fz := A4.2.1 1
          have A5 : BAt w5 D [.slice ma m.length mc, .slice va4 (k + 1) vc4] := by rw [hw5]; exact A4.set 1 (by simp) _
          have B5 : Below O.heap.size O w5 := by rw [hw5]; exact B4.setCell (by simp; omega) _
          refine wpAnyH_ready (rs := [12]) (by kernel_rfl) (by simp) (AllReadyH.cons rfl (fun K hK => ?_) AllReadyH.nil)
          go_simp
          rw [← hw5]
          refine hK.out _ _ ⟨⟨_, A5⟩, B5⟩ (fun h6 => ?_)
          clear hK K h6 h4 f1 fz A4 B4 o4 g4 hv4 hv4b AX BX h5b h5z OV3 CR3 hw5
          refine wpAnyH_done (by kernel_rfl) ?_ _
          go_wp2_with fail
          go_roundw
          case rel => exact ⟨k + 1, _, _, by omega, by go_num, A5, O5, I5, M5, B5⟩
          case measure => simp [intOf]; omega
        · go_simp
          refine hK.out _ _ ⟨⟨v, AX.alloc _⟩, BX.alloc BX.size _⟩ (fun h1 => ?_)
          clear hK K h1
          have AY := AX.alloc (.cells #[] 35)
          have BY : Below O.heap.size O (wr.drew.alloc (.cells #[] 35)) := BX.alloc BX.size _
          clear AX BX
          have AX := AY
          have BX := BY
          clear AY BY
          refine wpAnyH_ready (rs := [1, 8]) (by kernel_rfl) (by simp) (AllReadyH.cons rfl (fun K hK => ?_) (AllReadyH.cons rfl (fun K hK => ?_) AllReadyH.nil))
          · have cD := AX.1 1 _ rfl
            have cDa := (AD.alloc (.cells #[] 35)).1 1 _ rfl
            have cDb := AD.1 1 _ rfl
            go_simp
            refine hK.out _ _ ⟨⟨v, AX⟩, BX⟩ (fun hs => ?_)
            clear hK K hs cD cDa cDb
            refine wpAnyH_ready (rs := [8]) (by kernel_rfl) (by simp) (AllReadyH.cons rfl (fun K hK => ?_) AllReadyH.nil)
            rw [if_pos (by rfl)]
            refine wp_append_crow (.tmp 19) (.tmp 24) 24 rfl (D + 1) 35 (.agg #[.string ⟨#[]⟩, .int .i64 0]) 2 24 Try.underlying24 Try.infoMk rfl (by decide) _ 0 [] rfl HE.out _ XN (ecells (ll.getD k [])) rfl HXC.out (by omega) (by unfold maxLen; omega) (by simp; omega) ?_
            intro x2 w2 o2 g2 hx2
            have g2b : ∀ b, b < wr.heap.size → w2.heap[b]? = wr.heap[b]? := fun b hb => (g2.block b (by simp; omega) (fun e => by injection e with e; have e' : b = wr.heap.size := e; omega)).trans (Below.heap_alloc wr.drew _ b hb)
            have g2s : wr.heap.size + 1 ≤ w2.heap.size := by have := g2.size; simpa using this
            have AY : BAt w2 D [.slice ma m.length mc, v] := AX.same g2.size (g2.block D AX.2.2 (fun e => by injection e with e; have e' : D = wr.heap.size := e; omega))
            have BY : Below O.heap.size O w2 := BX.grown g2 BX.size (fun b hb => by cases hb; show O.heap.size ≤ wr.heap.size; omega)
            have OX2 : Hid (w2.ownsRow (D + 1) 35 2 x2 XN (ecells (ll.getD k []))) := hidM (by simpa using o2)
            have HX2 : Hid (∀ b, x2.ownBlock = some b → wr.heap.size ≤ b) := fun b hb => by
              rcases hx2 with e | e
              · rw [e] at hb; injection hb with hb; have e' : wr.heap.size = b := hb; omega
              · rw [e] at hb; injection hb with hb; rw [← hb]; simp
            refine hK.out _ _ ⟨⟨v, AY⟩, BY⟩ (fun h1 => ?_)
            clear hK K h1 o2 g2 hx2 AX BX
            obtain ⟨xa2, xc2, hxe2⟩ : ∃ xa2 xc2, x2 = .slice xa2 XN xc2 := by
              rcases OX2.out.2 with ⟨h, h2⟩ | ⟨g, cap, cur, h, _⟩
              · exact ⟨none, 0, by rw [h, h2]⟩
              · exact ⟨_, _, h⟩
            subst hxe2
            have AX := AY
            have BX := BY
            clear AY BY
            refine wpAnyH_ready (rs := [9]) (by kernel_rfl) (by simp) (AllReadyH.cons rfl (fun K hK => ?_) AllReadyH.nil)
            go_simp
            refine hK.out _ _ ⟨⟨v, AX.alloc _⟩, BX.alloc BX.size _⟩ (fun h1 => ?_)
            clear hK K h1
            have AY := AX.alloc (.cells #[.slice xa2 XN xc2] 24)
            have BY : Below O.heap.size O (w2.alloc (.cells #[.slice xa2 XN xc2] 24)) := BX.alloc BX.size _
            clear AX BX
            have AX := AY
            have BX := BY
            clear AY BY
            refine wpAnyH_ready (rs := [10]) (by kernel_rfl) (by simp) (AllReadyH.cons rfl (fun K hK => ?_) AllReadyH.nil)
            rw [if_pos (by rfl)]
            have OV3 : (w2.alloc (.cells #[.slice xa2 XN xc2] 24)).ownsRow (D + 1) 24 1 v k xs := (own_at HO.out fun b hb => g2b b (HO.out.lt b hb).2).alloc _
            have CR3 : CRow (w2.alloc (.cells #[.slice xa2 XN xc2] 24)) (.slice (some ⟨w2.heap.size, 0, none⟩) 1 1) 1 1 [.slice xa2 XN xc2] := ⟨⟨rfl, by intro u hu; rw [List.mem_singleton.1 hu]; rfl⟩, .inr ⟨w2.heap.size, 0, 1, rfl, by simp, fun jj u hj => by rw [Nat.zero_add]; exact (BAt.new w2 #[.slice xa2 XN xc2] 24).1 jj u hj⟩⟩
            refine wp_append_crow (.tmp 18) (.tmp 26) 25 rfl (D + 1) 24 (.slice none 0 0) 1 24 Try.underlying25 Try.infoRw rfl (by decide) v k xs rfl OV3 _ 1 [.slice xa2 XN xc2] rfl CR3 (by omega) (by unfold maxLen; omega) (by simp; omega) ?_
            intro v4 w4 o4 g4 hv4
            have hvb : ∀ b, v.ownBlock = some b → D + 1 ≤ b ∧ b < wr.heap.size := fun b hb => HO.out.lt b hb
            have g4s : w2.heap.size + 1 ≤ w4.heap.size := by have := g4.size; simpa using this
            have A4 : BAt w4 D [.slice ma m.length mc, v] := AX.same g4.size (g4.block D AX.2.2 (fun e => by have := (hvb D e.symm).1; omega))
            have B4 : Below O.heap.size O w4 := BX.grown g4 BX.size (fun b hb => by have := (hvb b hb).1; omega)
            have hv4b : ∀ b, v4.ownBlock = some b → (v.ownBlock = some b ∨ b = w2.heap.size + 1) := fun b hb => by
              rcases hv4 with e | e
              · exact .inl (by rw [← e]; exact hb)
              · rw [e] at hb; injection hb with hb; exact .inr (by rw [← hb]; simp)
            obtain ⟨va4, vc4, hve4⟩ : ∃ va4 vc4, v4 = .slice va4 (k + 1) vc4 := by
              rcases o4.2 with ⟨h, h2⟩ | ⟨gg, cap, cur, h, _⟩
              · exact absurd h2 (by omega)
              · exact ⟨_, _, h⟩
            obtain ⟨w5, hw5⟩ : ∃ w5, w5 = w4.setCell ⟨D, 1, none⟩ v4 := ⟨_, rfl⟩
            have h5b : ∀ b, b ≠ D → w5.heap[b]? = w4.heap[b]? := fun b hb => by rw [hw5]; exact Below.heap_setCell _ _ _ _ hb
            have h5z : w5.heap.size = w4.heap.size := by rw [hw5]; simp
            have O5 : Hid (w5.ownsRow (D + 1) 24 1 v4 (k + 1) (xs ++ [.slice xa2 XN xc2])) := hidM (own_at o4 fun b hb => h5b b (by have := (o4.lt b hb).1; omega))
            have hxl2 : xs.length = k := by have := HO.out.1; omega
            have I5 : Hid (InR w5 (D + 1) w5.heap.size v4 (xs ++ [.slice xa2 XN xc2]) ll (k + 1)) := hidM (by
              refine HI.out.more (p := .slice xa2 XN xc2) (fun b h1 h2 h3 => ?_) (fun a ha => ?_) (fun _ _ => rfl) ?_ (by omega) ?_ ?_ (fun b e => ?_) (fun b e1 e2 => ?_)
              · rw [h5b b (by omega), g4.block b (by simp; omega) h3, Below.heap_alloc w2 _ b (by omega), g2b b h2]
              · rw [List.getElem?_append_left (by omega)]
              · rcases hv4 with e | e
                · exact .inl e
                · exact .inr fun b hb => by have h1 := (o4.lt b hb).2; rw [e] at hb; injection hb with hb; rw [World.size_alloc] at hb; omega
              · rw [List.getElem?_append_right (by omega), hxl2, Nat.sub_self]; rfl
              · rw [HXN.out]
                refine own_at ((OX2.out.alloc _).kept g4 ?_) (fun b hb => h5b b (by have := HX2.out b hb; omega))
                cases hxb : (Value.slice xa2 XN xc2).ownBlock with
                | none => exact .inl rfl
                | some b => exact .inr fun e => by have h1 := HX2.out b hxb; have h2 := (hvb b e.symm).2; omega
              · have h1 := HX2.out b e; have h2 := (OX2.out.lt b e).2; omega
              · have h1 := HX2.out b e1
                have h3 := (OX2.out.lt b e1).2
                rcases hv4b b e2 with h | h
                · have := (hvb b h).2; omega
                · omega)
            have M5 : Hid (w5.ownsRow O.heap.size 35 2 (.slice ma m.length mc) m.length (ecells m)) := hidM (own_at HM.out fun b hb => by
              have h1 := hmD b hb
              rw [h5b b (by omega), g4.block b (by simp; omega) (fun e => by have := (hvb b e.symm).1; omega), Below.heap_alloc w2 _ b (by omega), g2b b (by omega)])
            refine hK.out _ _ ⟨⟨v, A4⟩, B4⟩ (fun h4 => ?_)
            clear hK K
            refine wpAnyH_take (i := 11) (v := ?_) rfl (by kernel_rfl) (by kernel_rfl) (by kernel_rfl) (fun _ _ _ h => h) (Or.inl ⟨by rfl, fun W hW => ?_⟩) h4 ?_
            rotate_left
            · clear hW
              go_simp
              try with_reducible rfl
            simp only [Act.put, List.getElem_toArray, List.getElem_cons_zero, List.getElem_cons_succ, List.setIfInBounds_toArray, List.set_cons_zero, List.set_cons_succ]
            subst hve4
            have f1 := A4.1 1 _ rfl
            have fz := A4.2.1 1
            have A5 : BAt w5 D [.slice ma m.length mc, .slice va4 (k + 1) vc4] := by rw [hw5]; exact A4.set 1 (by simp) _
            have B5 : Below O.heap.size O w5 := by rw [hw5]; exact B4.setCell (by simp; omega) _
            refine wpAnyH_ready (rs := [12]) (by kernel_rfl) (by simp) (AllReadyH.cons rfl (fun K hK => ?_) AllReadyH.nil)
            go_simp
            rw [← hw5]
            refine hK.out _ _ ⟨⟨_, A5⟩, B5⟩ (fun h6 => ?_)
            clear hK K h6 h4 f1 fz A4 B4 o4 g4 hv4 hv4b AX BX h5b h5z OV3 CR3 hw5
            refine wpAnyH_done (by kernel_rfl) ?_ _
            go_wp2_with fail
            go_roundw
            case rel => exact ⟨k + 1, _, _, by omega, by go_num, A5, O5, I5, M5, B5⟩
            case measure => simp [intOf]; omega
          · rw [if_pos (by rfl)]
            refine wp_append_crow (.tmp 19) (.tmp 24) 24 rfl (D + 1) 35 (.agg #[.string ⟨#[]⟩, .int .i64 0]) 2 24 Try.underlying24 Try.infoMk rfl (by decide) _ 0 [] rfl HE.out _ XN (ecells (ll.getD k [])) rfl HXC.out (by omega) (by unfold maxLen; omega) (by simp; omega) ?_
            intro x2 w2 o2 g2 hx2
            have g2b : ∀ b, b < wr.heap.size → w2.heap[b]? = wr.heap[b]? := fun b hb => (g2.block b (by simp; omega) (fun e => by injection e with e; have e' : b = wr.heap.size := e; omega)).trans (Below.heap_alloc wr.drew _ b hb)
            have g2s : wr.heap.size + 1 ≤ w2.heap.size := by have := g2.size; simpa using this
            have AY : BAt w2 D [.slice ma m.length mc, v] := AX.same g2.size (g2.block D AX.2.2 (fun e => by injection e with e; have e' : D = wr.heap.size := e; omega))
            have BY : Below O.heap.size O w2 := BX.grown g2 BX.size (fun b hb => by cases hb; show O.heap.size ≤ wr.heap.size; omega)
            have OX2 : Hid (w2.ownsRow (D + 1) 35 2 x2 XN (ecells (ll.getD k []))) := hidM (by simpa using o2)
            have HX2 : Hid (∀ b, x2.ownBlock = some b → wr.heap.size ≤ b) := fun b hb => by
              rcases hx2 with e | e
              · rw [e] at hb; injection hb with hb; have e' : wr.heap.size = b := hb; omega
              · rw [e] at hb; injection hb with hb; rw [← hb]; simp
            refine hK.out _ _ ⟨⟨v, AY⟩, BY⟩ (fun h1 => ?_)
            clear hK K h1 o2 g2 hx2 AX BX
            obtain ⟨xa2, xc2, hxe2⟩ : ∃ xa2 xc2, x2 = .slice xa2 XN xc2 := by
              rcases OX2.out.2 with ⟨h, h2⟩ | ⟨g, cap, cur, h, _⟩
              · exact ⟨none, 0, by rw [h, h2]⟩
              · exact ⟨_, _, h⟩
            subst hxe2
            have AX := AY
            have BX := BY
            clear AY BY
            refine wpAnyH_ready (rs := [1, 9]) (by kernel_rfl) (by simp) (AllReadyH.cons rfl (fun K hK => ?_) (AllReadyH.cons rfl (fun K hK => ?_) AllReadyH.nil))
            · have cD := AX.1 1 _ rfl
              have cDa := (AD.alloc (.cells #[] 35)).1 1 _ rfl
              have cDb := AD.1 1 _ rfl
              go_simp
              refine hK.out _ _ ⟨⟨v, AX⟩, BX⟩ (fun hs => ?_)
              clear hK K hs cD cDa cDb
              refine wpAnyH_ready (rs := [9]) (by kernel_rfl) (by simp) (AllReadyH.cons rfl (fun K hK => ?_) AllReadyH.nil)
              go_simp
              refine hK.out _ _ ⟨⟨v, AX.alloc _⟩, BX.alloc BX.size _⟩ (fun h1 => ?_)
              clear hK K h1
              have AY := AX.alloc (.cells #[.slice xa2 XN xc2] 24)
              have BY : Below O.heap.size O (w2.alloc (.cells #[.slice xa2 XN xc2] 24)) := BX.alloc BX.size _
              clear AX BX
              have AX := AY
              have BX := BY
              clear AY BY
              refine wpAnyH_ready (rs := [10]) (by kernel_rfl) (by simp) (AllReadyH.cons rfl (fun K hK => ?_) AllReadyH.nil)
              rw [if_pos (by rfl)]
              have OV3 : (w2.alloc (.cells #[.slice xa2 XN xc2] 24)).ownsRow (D + 1) 24 1 v k xs := (own_at HO.out fun b hb => g2b b (HO.out.lt b hb).2).alloc _
              have CR3 : CRow (w2.alloc (.cells #[.slice xa2 XN xc2] 24)) (.slice (some ⟨w2.heap.size, 0, none⟩) 1 1) 1 1 [.slice xa2 XN xc2] := ⟨⟨rfl, by intro u hu; rw [List.mem_singleton.1 hu]; rfl⟩, .inr ⟨w2.heap.size, 0, 1, rfl, by simp, fun jj u hj => by rw [Nat.zero_add]; exact (BAt.new w2 #[.slice xa2 XN xc2] 24).1 jj u hj⟩⟩
              refine wp_append_crow (.tmp 18) (.tmp 26) 25 rfl (D + 1) 24 (.slice none 0 0) 1 24 Try.underlying25 Try.infoRw rfl (by decide) v k xs rfl OV3 _ 1 [.slice xa2 XN xc2] rfl CR3 (by omega) (by unfold maxLen; omega) (by simp; omega) ?_
              intro v4 w4 o4 g4 hv4
              have hvb : ∀ b, v.ownBlock = some b → D + 1 ≤ b ∧ b < wr.heap.size := fun b hb => HO.out.lt b hb
              have g4s : w2.heap.size + 1 ≤ w4.heap.size := by have := g4.size; simpa using this
              have A4 : BAt w4 D [.slice ma m.length mc, v] := AX.same g4.size (g4.block D AX.2.2 (fun e => by have := (hvb D e.symm).1; omega))
              have B4 : Below O.heap.size O w4 := BX.grown g4 BX.size (fun b hb => by have := (hvb b hb).1; omega)
              have hv4b : ∀ b, v4.ownBlock = some b → (v.ownBlock = some b ∨ b = w2.heap.size + 1) := fun b hb => by
                rcases hv4 with e | e
                · exact .inl (by rw [← e]; exact hb)
                · rw [e] at hb; injection hb with hb; exact .inr (by rw [← hb]; simp)
              obtain ⟨va4, vc4, hve4⟩ : ∃ va4 vc4, v4 = .slice va4 (k + 1) vc4 := by
                rcases o4.2 with ⟨h, h2⟩ | ⟨gg, cap, cur, h, _⟩
                · exact absurd h2 (by omega)
                · exact ⟨_, _, h⟩
              obtain ⟨w5, hw5⟩ : ∃ w5, w5 = w4.setCell ⟨D, 1, none⟩ v4 := ⟨_, rfl⟩
              have h5b : ∀ b, b ≠ D → w5.heap[b]? = w4.heap[b]? := fun b hb => by rw [hw5]; exact Below.heap_setCell _ _ _ _ hb
              have h5z : w5.heap.size = w4.heap.size := by rw [hw5]; simp
              have O5 : Hid (w5.ownsRow (D + 1) 24 1 v4 (k + 1) (xs ++ [.slice xa2 XN xc2])) := hidM (own_at o4 fun b hb => h5b b (by have := (o4.lt b hb).1; omega))
              have hxl2 : xs.length = k := by have := HO.out.1; omega
              have I5 : Hid (InR w5 (D + 1) w5.heap.size v4 (xs ++ [.slice xa2 XN xc2]) ll (k + 1)) := hidM (by
                refine HI.out.more (p := .slice xa2 XN xc2) (fun b h1 h2 h3 => ?_) (fun a ha => ?_) (fun _ _ => rfl) ?_ (by omega) ?_ ?_ (fun b e => ?_) (fun b e1 e2 => ?_)
                · rw [h5b b (by omega), g4.block b (by simp; omega) h3, Below.heap_alloc w2 _ b (by omega), g2b b h2]
                · rw [List.getElem?_append_left (by omega)]
                · rcases hv4 with e | e
                  · exact .inl e
                  · exact .inr fun b hb => by have h1 := (o4.lt b hb).2; rw [e] at hb; injection hb with hb; rw [World.size_alloc] at hb; omega
                · rw [List.getElem?_append_right (by omega), hxl2, Nat.sub_self]; rfl
                · rw [HXN.out]
                  refine own_at ((OX2.out.alloc _).kept g4 ?_) (fun b hb => h5b b (by have := HX2.out b hb; omega))
                  cases hxb : (Value.slice xa2 XN xc2).ownBlock with
                  | none => exact .inl rfl
                  | some b => exact .inr fun e => by have h1 := HX2.out b hxb; have h2 := (hvb b e.symm).2; omega
                · have h1 := HX2.out b e; have h2 := (OX2.out.lt b e).2; omega
                · have h1 := HX2.out b e1
                  have h3 := (OX2.out.lt b e1).2
                  rcases hv4b b e2 with h | h
                  · have := (hvb b h).2; omega
                  · omega)
              have M5 : Hid (w5.ownsRow O.heap.size 35 2 (.slice ma m.length mc) m.length (ecells m)) := hidM (own_at HM.out fun b hb => by
                have h1 := hmD b hb
                rw [h5b b (by omega), g4.block b (by simp; omega) (fun e => by have := (hvb b e.symm).1; omega), Below.heap_alloc w2 _ b (by omega), g2b b (by omega)])
              refine hK.out _ _ ⟨⟨v, A4⟩, B4⟩ (fun h4 => ?_)
              clear hK K
              refine wpAnyH_take (i := 11) (v := ?_) rfl (by kernel_rfl) (by kernel_rfl) (by kernel_rfl) (fun _ _ _ h => h) (Or.inl ⟨by rfl, fun W hW => ?_⟩) h4 ?_
              rotate_left
              · clear hW
                go_simp
                try with_reducible rfl
              simp only [Act.put, List.getElem_toArray, List.getElem_cons_zero, List.getElem_cons_succ, List.setIfInBounds_toArray, List.set_cons_zero, List.set_cons_succ]
              subst hve4
              have f1 := A4.1 1 _ rfl
              have fz := A4.2.1 1
              have A5 : BAt w5 D [.slice ma m.length mc, .slice va4 (k + 1) vc4] := by rw [hw5]; exact A4.set 1 (by simp) _
              have B5 : Below O.heap.size O w5 := by rw [hw5]; exact B4.setCell (by simp; omega) _
              refine wpAnyH_ready (rs := [12]) (by kernel_rfl) (by simp) (AllReadyH.cons rfl (fun K hK => ?_) AllReadyH.nil)
              go_simp
              rw [← hw5]
              refine hK.out _ _ ⟨⟨_, A5⟩, B5⟩ (fun h6 => ?_)
              clear hK K h6 h4 f1 fz A4 B4 o4 g4 hv4 hv4b AX BX h5b h5z OV3 CR3 hw5
              refine wpAnyH_done (by kernel_rfl) ?_ _
              go_wp2_with fail
              go_roundw
              case rel => exact ⟨k + 1, _, _, by omega, by go_num, A5, O5, I5, M5, B5⟩
              case measure => simp [intOf]; omega
            · go_simp
              refine hK.out _ _ ⟨⟨v, AX.alloc _⟩, BX.alloc BX.size _⟩ (fun h1 => ?_)
              clear hK K h1
              have AY := AX.alloc (.cells #[.slice xa2 XN xc2] 24)
              have BY : Below O.heap.size O (w2.alloc (.cells #[.slice xa2 XN xc2] 24)) := BX.alloc BX.size _
              clear AX BX
              have AX := AY
              have BX := BY
              clear AY BY
              refine wpAnyH_ready (rs := [1]) (by kernel_rfl) (by simp) (AllReadyH.cons rfl (fun K hK => ?_) AllReadyH.nil)
              have cD := AX.1 1 _ rfl
              have cDa := (AD.alloc (.cells #[] 35)).1 1 _ rfl
              have cDb := AD.1 1 _ rfl
              go_simp
              refine hK.out _ _ ⟨⟨v, AX⟩, BX⟩ (fun hs => ?_)
              clear hK K hs cD cDa cDb
              refine wpAnyH_ready (rs := [10]) (by kernel_rfl) (by simp) (AllReadyH.cons rfl (fun K hK => ?_) AllReadyH.nil)
              rw [if_pos (by rfl)]
              have OV3 : (w2.alloc (.cells #[.slice xa2 XN xc2] 24)).ownsRow (D + 1) 24 1 v k xs := (own_at HO.out fun b hb => g2b b (HO.out.lt b hb).2).alloc _
              have CR3 : CRow (w2.alloc (.cells #[.slice xa2 XN xc2] 24)) (.slice (some ⟨w2.heap.size, 0, none⟩) 1 1) 1 1 [.slice xa2 XN xc2] := ⟨⟨rfl, by intro u hu; rw [List.mem_singleton.1 hu]; rfl⟩, .inr ⟨w2.heap.size, 0, 1, rfl, by simp, fun jj u hj => by rw [Nat.zero_add]; exact (BAt.new w2 #[.slice xa2 XN xc2] 24).1 jj u hj⟩⟩
              refine wp_append_crow (.tmp 18) (.tmp 26) 25 rfl (D + 1) 24 (.slice none 0 0) 1 24 Try.underlying25 Try.infoRw rfl (by decide) v k xs rfl OV3 _ 1 [.slice xa2 XN xc2] rfl CR3 (by omega) (by unfold maxLen; omega) (by simp; omega) ?_
              intro v4 w4 o4 g4 hv4
              have hvb : ∀ b, v.ownBlock = some b → D + 1 ≤ b ∧ b < wr.heap.size := fun b hb => HO.out.lt b hb
              have g4s : w2.heap.size + 1 ≤ w4.heap.size := by have := g4.size; simpa using this
              have A4 : BAt w4 D [.slice ma m.length mc, v] := AX.same g4.size (g4.block D AX.2.2 (fun e => by have := (hvb D e.symm).1; omega))
              have B4 : Below O.heap.size O w4 := BX.grown g4 BX.size (fun b hb => by have := (hvb b hb).1; omega)
              have hv4b : ∀ b, v4.ownBlock = some b → (v.ownBlock = some b ∨ b = w2.heap.size + 1) := fun b hb => by
                rcases hv4 with e | e
                · exact .inl (by rw [← e]; exact hb)
                · rw [e] at hb; injection hb with hb; exact .inr (by rw [← hb]; simp)
              obtain ⟨va4, vc4, hve4⟩ : ∃ va4 vc4, v4 = .slice va4 (k + 1) vc4 := by
                rcases o4.2 with ⟨h, h2⟩ | ⟨gg, cap, cur, h, _⟩
                · exact absurd h2 (by omega)
                · exact ⟨_, _, h⟩
              obtain ⟨w5, hw5⟩ : ∃ w5, w5 = w4.setCell ⟨D, 1, none⟩ v4 := ⟨_, rfl⟩
              have h5b : ∀ b, b ≠ D → w5.heap[b]? = w4.heap[b]? := fun b hb => by rw [hw5]; exact Below.heap_setCell _ _ _ _ hb
              have h5z : w5.heap.size = w4.heap.size := by rw [hw5]; simp
              have O5 : Hid (w5.ownsRow (D + 1) 24 1 v4 (k + 1) (xs ++ [.slice xa2 XN xc2])) := hidM (own_at o4 fun b hb => h5b b (by have := (o4.lt b hb).1; omega))
              have hxl2 : xs.length = k := by have := HO.out.1; omega
              have I5 : Hid (InR w5 (D + 1) w5.heap.size v4 (xs ++ [.slice xa2 XN xc2]) ll (k + 1)) := hidM (by
                refine HI.out.more (p := .slice xa2 XN xc2) (fun b h1 h2 h3 => ?_) (fun a ha => ?_) (fun _ _ => rfl) ?_ (by omega) ?_ ?_ (fun b e => ?_) (fun b e1 e2 => ?_)
                · rw [h5b b (by omega), g4.block b (by simp; omega) h3, Below.heap_alloc w2 _ b (by omega), g2b b h2]
                · rw [List.getElem?_append_left (by omega)]
                · rcases hv4 with e | e
                  · exact .inl e
                  · exact .inr fun b hb => by have h1 := (o4.lt b hb).2; rw [e] at hb; injection hb with hb; rw [World.size_alloc] at hb; omega
                · rw [List.getElem?_append_right (by omega), hxl2, Nat.sub_self]; rfl
                · rw [HXN.out]
                  refine own_at ((OX2.out.alloc _).kept g4 ?_) (fun b hb => h5b b (by have := HX2.out b hb; omega))
                  cases hxb : (Value.slice xa2 XN xc2).ownBlock with
                  | none => exact .inl rfl
                  | some b => exact .inr fun e => by have h1 := HX2.out b hxb; have h2 := (hvb b e.symm).2; omega
                · have h1 := HX2.out b e; have h2 := (OX2.out.lt b e).2; omega
                · have h1 := HX2.out b e1
                  have h3 := (OX2.out.lt b e1).2
                  rcases hv4b b e2 with h | h
                  · have := (hvb b h).2; omega
                  · omega)
              have M5 : Hid (w5.ownsRow O.heap.size 35 2 (.slice ma m.length mc) m.length (ecells m)) := hidM (own_at HM.out fun b hb => by
                have h1 := hmD b hb
                rw [h5b b (by omega), g4.block b (by simp; omega) (fun e => by have := (hvb b e.symm).1; omega), Below.heap_alloc w2 _ b (by omega), g2b b (by omega)])
              refine hK.out _ _ ⟨⟨v, A4⟩, B4⟩ (fun h4 => ?_)
              clear hK K
              refine wpAnyH_take (i := 11) (v := ?_) rfl (by kernel_rfl) (by kernel_rfl) (by kernel_rfl) (fun _ _ _ h => h) (Or.inl ⟨by rfl, fun W hW => ?_⟩) h4 ?_
              rotate_left
              · clear hW
                go_simp
                try with_reducible rfl
              simp only [Act.put, List.getElem_toArray, List.getElem_cons_zero, List.getElem_cons_succ, List.setIfInBounds_toArray, List.set_cons_zero, List.set_cons_succ]
              subst hve4
              have f1 := A4.1 1 _ rfl
              have fz := A4.2.1 1
              have A5 : BAt w5 D [.slice ma m.length mc, .slice va4 (k + 1) vc4] := by rw [hw5]; exact A4.set 1 (by simp) _
              have B5 : Below O.heap.size O w5 := by rw [hw5]; exact B4.setCell (by simp; omega) _
              refine wpAnyH_ready (rs := [12]) (by kernel_rfl) (by simp) (AllReadyH.cons rfl (fun K hK => ?_) AllReadyH.nil)
              go_simp
              rw [← hw5]
              refine hK.out _ _ ⟨⟨_, A5⟩, B5⟩ (fun h6 => ?_)
              clear hK K h6 h4 f1 fz A4 B4 o4 g4 hv4 hv4b AX BX h5b h5z OV3 CR3 hw5
              refine wpAnyH_done (by kernel_rfl) ?_ _
              go_wp2_with fail
              go_roundw
              case rel => exact ⟨k + 1, _, _, by omega, by go_num, A5, O5, I5, M5, B5⟩
              case measure => simp [intOf]; omega
    · have hki : ¬ (k : Int) < ll.length := by omega
      have hke : k = ll.length := by omega
      subst hke
      obtain ⟨ra, rc, hrv⟩ := (RunRow.of_own HO.out HI.out).slice
      subst hrv
      have f0 := AD.1 0 _ rfl
      have f1 := AD.1 1 _ rfl
      have r0 := AR.1 0 _ rfl
      have r1 := AR.1 1 _ rfl
      have g1 := AR.2.1
      have hC : w.heap.size + 1 < O.heap.size := by omega
      have HM2 := hidM (fun x y => own_wide1 (own_put (own_put HM.out hC 0 x) hC 1 y) bO.size)
      have HR2 : Hid (∀ x y, RunOwn ((wr.setCell ⟨w.heap.size + 1, 0, none⟩ x).setCell ⟨w.heap.size + 1, 1, none⟩ y) w.heap.size ((wr.setCell ⟨w.heap.size + 1, 0, none⟩ x).setCell ⟨w.heap.size + 1, 1, none⟩ y).heap.size (.slice ra ll.length rc) ll) := fun x y => ⟨xs, own_wide1 (own_put (own_put HO.out (by omega) 0 x) (by omega) 1 y) (by omega), (HI.out.same (by simp) fun b h1 h2 h3 => by
        rw [Below.heap_setCell _ _ _ _ (by simp; omega), Below.heap_setCell _ _ _ _ (by simp; omega)]).wide (by omega)⟩
      clear HO HI HM
      go_wp2_with fail
      refine bodyPost_ret (seen_resultS rfl _ _ (w.heap.size + 1) _ _ rfl ((AR.set 0 (by simp) _).set 1 (by simp) _)) rfl ⟨_, _, rfl, ?_, ?_, ?_⟩
      · exact HM2.out _ _
      · exact HR2.out _ _
      · exact (hbel.setCell (by simp) _).setCell (by simp) _
end Go.Proofs.Ytdnlaijpgjpplaa
