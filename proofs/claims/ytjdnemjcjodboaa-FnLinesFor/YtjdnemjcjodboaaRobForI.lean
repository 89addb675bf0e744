/- The contracts of the code's linesOf and LinesFor. -/
import Derived.Test.YtjdnemjcjodboaaRows
import Derived.Test.YtjdnemjcjodboaaRobFor
import Derived.Test.YtjdnemjcjodboaaAgImpl
import Derived.Test.YtjdnemjcjodboaaCloneWalk
import Derived.Deep.RegionHeld3
namespace Go.Proofs.Ytjdnemjcjodboaa
open Go.RowKit
set_option linter.unusedVariables false

theorem contains_has (l : List ByteArray) (n : ByteArray) : Lib.containsS l n = hasS l n := by
  rw [Bool.eq_iff_iff, Lib.containsS_iff]
  unfold hasS
  rw [List.any_eq_true]
  constructor
  · intro h; exact ⟨n, h, decide_eq_true rfl⟩
  · rintro ⟨x, hx, e⟩
    rw [← of_decide_eq_true e]; exact hx
theorem implContains (l : List ByteArray) (v : Value) (n : ByteArray) (w : World) (hl : l.length ≤ 1099511627776) (h : StrRow w v l) :
    Calls Try.prog 47 #[v, .string n] w fun e w' => e = .returned (.bool (hasS l n)) ∧ w = w' := by
  rcases h with ⟨rfl, ao, cap, rfl⟩ | ⟨h0, g, off, cap, rfl, hg, hc⟩
  · exact (Try.slices_Contains_string_empty ao cap n w).mono fun e w' h => ⟨h.1, h.2.symm⟩
  · refine (Try.slices_Contains_string g off l.length (l.length + cap) l n w (Nat.le_refl _) (by omega) hc).mono fun e w' h => ⟨?_, h.2.symm⟩
    rw [h.1, List.take_length, contains_has]
set_option maxHeartbeats 8000000 in
theorem implLinesOf (l : List PT) (v : Value) (n : ByteArray) (w : World) (hN : sumP l ≤ 1048576) (h : PartRow w v l) :
    Calls Try.prog 27 #[v, .string n] w fun e w' => ∃ v', e = .returned (.tuple #[v', .bool (hasP l n)]) ∧ w'.ownsRow w.heap.size 58 2 v' (forL l n).length (lcells (forL l n)) ∧ Below w.heap.size w w' := by
  have HN : Hid (sumP l ≤ 1048576) := hN
  have hll : l.length ≤ 1048576 := by unfold sumP at hN; omega
  clear hN
  obtain ⟨O, hO⟩ : ∃ O, O = w.alloc (.cells #[] 58) := ⟨_, rfl⟩
  have hbO : Below w.heap.size w O := by rw [hO]; exact (Below.refl _ _).alloc (Nat.le_refl _) _
  have OO : O.ownsRow w.heap.size 58 2 (.slice (some ⟨w.heap.size, 0, none⟩) 0 0) 0 [] := by
    rw [hO]
    exact World.ownsRow_made (e := 58) (size := 2) (base := w.heap.size) w #[] 0 (Nat.le_refl _) (by decide) rfl
  obtain ⟨ao, cap, hv⟩ := h.slice
  subst hv
  have HROW : Hid (PartRow w (.slice ao l.length cap) l) := h
  clear h
  go_enter Try.func27, Try.ntmps27
  go_upto_region 2 with fail
  rw [← hO]
  clear hO
  go_wp2_with fail
  go_loopw [4, 5, 13] (fun o b i wr => ∃ k : Nat, k ≤ l.length ∧ i = .int .i64 k ∧ b = .bool (hasP (l.take k) n) ∧ Hid (wr.ownsRow w.heap.size 58 2 o (forL (l.take k) n).length (lcells (forL (l.take k) n))) ∧ Below w.heap.size w wr) (fun _ _ i _ => l.length - (intOf i).toNat)
  case atStart => exact ⟨0, Nat.zero_le _, rfl, rfl, OO, hbO⟩
  case round =>
    obtain ⟨k, hk, rfl, rfl, HO, hbel⟩ := hrel
    clear OO hbO
    by_cases hlt : k < l.length
    · have hki : (k : Int) < l.length := by omega
      obtain ⟨g, off, p, q, cc, hv, hg, c1, c2, c3, c4⟩ : ∃ g off p q cc, Value.slice ao l.length cap = .slice (some ⟨g, off, none⟩) l.length cc ∧ g < w.heap.size ∧ w.cell? ⟨g, off + k * 2, none⟩ = some p ∧ StrRow w p (l.getD k pt0).ag ∧ w.cell? ⟨g, off + k * 2 + 1, none⟩ = some q ∧ LineRow w q (l.getD k pt0).ln := by
        rcases HROW.out with ⟨h, _⟩ | ⟨_, g, off, cc, h1, h2, h3⟩
        · rw [h] at hlt; simp at hlt
        · obtain ⟨p, q, q1, q2, q3, q4⟩ := h3 k hlt
          exact ⟨g, off, p, q, _, h1, h2, q1, q2, q3, q4⟩
      cases hv
      have c1w := (hbel.cell (p := ⟨g, off + k * 2, none⟩) hg).trans c1
      have c3w := (hbel.cell (p := ⟨g, off + k * 2 + 1, none⟩) hg).trans c3
      obtain ⟨_, ha1, hl1⟩ := part_lens HN.out hlt
      have CH : Hid (∀ W, Below w.heap.size w W → Calls Try.prog 47 #[p, .string n] W fun e w' => e = .returned (.bool (hasS (l.getD k pt0).ag n)) ∧ W = w') := fun W hW => implContains _ p n W (by omega) (c2.below hW)
      have HLR : Hid (LineRow w q (l.getD k pt0).ln) := c4
      have HLZ : Hid (∀ j, j < (l.getD k pt0).ln.length → ((l.getD k pt0).ln.getD j lv0).pa.size ≤ 1048576) := fun j => ln_size HN.out hlt
      have HF1 : Hid (forL (l.take (k + 1)) n = forL (l.take k) n ++ (if hasS (l.getD k pt0).ag n = true then (l.getD k pt0).ln else [])) := forL_next hlt n
      have HH1 : Hid (hasP (l.take (k + 1)) n = (hasP (l.take k) n || hasS (l.getD k pt0).ag n)) := hasP_next hlt n
      have hfl := forL_most HN.out n k hk
      obtain ⟨qa, qc, hqq⟩ := c4.slice
      obtain ⟨pa, pc, hpp⟩ := c2.slice
      subst hqq hpp
      clear c1 c2 c3 c4
      generalize l.getD k pt0 = x at *
      generalize hFF : forL (l.take k) n = FF at *
      clear hFF
      go_upto_region 5 with fail
      obtain ⟨U, hU⟩ : ∃ U, U = wr.alloc (.cells #[.slice pa x.ag.length pc, .slice qa x.ln.length qc] 35) := ⟨_, rfl⟩
      have bU : Below wr.heap.size wr U := by rw [hU]; exact (Below.refl _ _).alloc (Nat.le_refl _) _
      have AU : BAt U wr.heap.size [.slice pa x.ag.length pc, .slice qa x.ln.length qc] := by rw [hU]; exact BAt.new wr #[.slice pa x.ag.length pc, .slice qa x.ln.length qc] _
      rw [← hU]
      clear hU
      have BU : Below w.heap.size w U := hbel.trans (bU.mono hbel.size)
      have HOU : Hid (U.ownsRow w.heap.size 58 2 u4 FF.length (lcells FF)) := own_below HO.out bU
      have d0 := AU.1 0 _ rfl
      have d1 := AU.1 1 _ rfl
      clear c1w c3w hbel bU HO AU
      generalize wr.heap.size = D at *
      cases hh : hasS x.ag n with
      | false =>
        rw [hh] at HF1 HH1 CH
        rw [if_neg (by decide), List.append_nil] at HF1
        rw [Bool.or_false] at HH1
        have HO2 : Hid (U.ownsRow w.heap.size 58 2 u4 (forL (l.take (k + 1)) n).length (lcells (forL (l.take (k + 1)) n))) := by rw [HF1.out]; exact HOU
        clear hh
        go_wp2_with fail
        refine (CH.out _ BU).mono ?_
        rintro e w' ⟨rfl, rfl⟩
        go_wp2_with fail
        go_roundw
        case rel => exact ⟨k + 1, by omega, by go_num, by rw [HH1.out], HO2, BU⟩
        case measure => simp [intOf] <;> omega
      | true =>
        rw [hh] at HF1 HH1 CH
        rw [if_pos rfl] at HF1
        rw [Bool.or_true] at HH1
        clear hh
        go_wp2_with fail
        refine (CH.out _ BU).mono ?_
        rintro e w' ⟨rfl, rfl⟩
        go_wp2_with fail
        clear d0 d1 CH
        go_loopw [4, 25] (fun o i wr => ∃ j : Nat, j ≤ x.ln.length ∧ i = .int .i64 j ∧ Hid (wr.ownsRow w.heap.size 58 2 o (FF.length + j) (lcells (FF ++ x.ln.take j))) ∧ Below w.heap.size w wr) (fun _ i _ => x.ln.length - (intOf i).toNat)
        case atStart => exact ⟨0, Nat.zero_le _, rfl, (by rw [List.take_zero, List.append_nil]; exact HOU), BU⟩
        case round =>
          obtain ⟨j, hj, rfl, HO, hbel⟩ := hrel
          clear HOU BU
          by_cases hjl : j < x.ln.length
          · have hji : (j : Int) < x.ln.length := by omega
            have hx := HLZ.out j hjl
            have HNX : Hid (FF ++ x.ln.take (j + 1) = FF ++ x.ln.take j ++ [x.ln.getD j lv0]) := by
              show _ = _
              rw [List.take_succ_eq_append_getElem hjl, List.getD_eq_getElem?_getD, List.getElem?_eq_getElem hjl, List.append_assoc]
              rfl
            obtain ⟨g', off', c2, hv, hg', ca, cb⟩ : ∃ g' off' cc, Value.slice qa x.ln.length qc = .slice (some ⟨g', off', none⟩) x.ln.length cc ∧ g' < w.heap.size ∧ w.cell? ⟨g', off' + j * 2, none⟩ = some (.bool (x.ln.getD j lv0).al) ∧ w.cell? ⟨g', off' + j * 2 + 1, none⟩ = some (.string (x.ln.getD j lv0).pa) := by
              rcases HLR.out with ⟨h, _⟩ | ⟨_, g', off', cc, h1, h2, h3⟩
              · rw [h] at hjl; simp at hjl
              · exact ⟨g', off', _, h1, h2, (h3 j hjl).1, (h3 j hjl).2⟩
            cases hv
            have caw := (hbel.cell (p := ⟨g', off' + j * 2, none⟩) hg').trans ca
            have cbw := (hbel.cell (p := ⟨g', off' + j * 2 + 1, none⟩) hg').trans cb
            have hyl : (⟨(x.ln.getD j lv0).al, (x.ln.getD j lv0).pa⟩ : LV) = x.ln.getD j lv0 := rfl
            rw [← hyl] at HNX
            clear ca cb hyl
            generalize (x.ln.getD j lv0).al = al at *
            generalize (x.ln.getD j lv0).pa = pb at *
            have CC : Hid (∀ W, Calls Try.prog 48 #[.string pb] W fun e w' => e = .returned (.string pb) ∧ Below W.heap.size W w') := fun W => strClone pb W (by omega)
            go_upto_region 10 with fail
            obtain ⟨V, hV⟩ : ∃ V, V = wr.alloc (.cells #[.bool al, .string pb] 58) := ⟨_, rfl⟩
            have bV : Below wr.heap.size wr V := by rw [hV]; exact (Below.refl _ _).alloc (Nat.le_refl _) _
            have AV : Hid (BAt V wr.heap.size [.bool al, .string pb]) := by rw [hV]; exact BAt.new wr #[.bool al, .string pb] _
            rw [← hV]
            clear hV
            have BV : Below w.heap.size w V := hbel.trans (bV.mono hbel.size)
            have HOV : Hid (V.ownsRow w.heap.size 58 2 u4 (FF.length + j) (lcells (FF ++ x.ln.take j))) := own_below HO.out bV
            have HUE : Hid (∀ b, u4.ownBlock = some b → w.heap.size ≤ b ∧ b < wr.heap.size) := fun b e => HO.out.lt b e
            have hfj : FF.length + j ≤ 2097152 := by omega
            clear caw cbw hbel bV HO
            generalize wr.heap.size = E at *
            obtain ⟨i0, hi, hz0, hz1, hz2⟩ := info_parts Try.infoLn
            refine wp_region_held_drew (S := fun W => BAt W E [.bool al, .string pb] ∧ Below w.heap.size w W) (by kernel_rfl) ⟨AV.out, BV.drew⟩ (fun h0 => ?_)
            refine wpAnyH_take (i := 0) (v := ?_) rfl (by kernel_rfl) (by kernel_rfl) (by kernel_rfl) (fun _ _ _ h => h) (Or.inl ⟨by rfl, fun W hW => ?_⟩) h0 ?_
            rotate_left
            · clear hW
              go_simp
              try with_reducible rfl
            simp only [Act.put, List.getElem_toArray, List.getElem_cons_zero, List.setIfInBounds_toArray, List.set_cons_zero, List.set_cons_succ]
            refine wpAnyH_take (i := 1) (v := ?_) rfl (by kernel_rfl) (by kernel_rfl) (by kernel_rfl) (fun _ _ _ h => h) (Or.inl ⟨by rfl, fun W hW => ?_⟩) h0 ?_
            rotate_left
            · clear hW
              go_simp
              try with_reducible rfl
            simp only [Act.put, List.getElem_toArray, List.getElem_cons_zero, List.getElem_cons_succ, List.setIfInBounds_toArray, List.set_cons_zero, List.set_cons_succ]
            refine wpAnyH_take (i := 2) (v := .bool al) rfl (by kernel_rfl) (by kernel_rfl) (by kernel_rfl) (fun _ _ _ h => h) (Or.inl ⟨by rfl, fun W hW => ?_⟩) h0 ?_
            · have q0 := hW.1.1 0 _ rfl
              go_simp
            simp only [Act.put, List.getElem_toArray, List.getElem_cons_zero, List.getElem_cons_succ, List.setIfInBounds_toArray, List.set_cons_zero, List.set_cons_succ]
            refine wpAnyH_take (i := 3) (v := ?_) rfl (by kernel_rfl) (by kernel_rfl) (by kernel_rfl) (fun _ _ _ h => h) (Or.inl ⟨by rfl, fun W hW => ?_⟩) h0 ?_
            rotate_left
            · clear hW
              go_simp
              try with_reducible rfl
            simp only [Act.put, List.getElem_toArray, List.getElem_cons_zero, List.getElem_cons_succ, List.setIfInBounds_toArray, List.set_cons_zero, List.set_cons_succ]
            refine wpAnyH_take (i := 4) (v := .string pb) rfl (by kernel_rfl) (by kernel_rfl) (by kernel_rfl) (fun _ _ _ h => h) (Or.inl ⟨by rfl, fun W hW => ?_⟩) h0 ?_
            · have q0 := hW.1.1 1 _ rfl
              go_simp
            simp only [Act.put, List.getElem_toArray, List.getElem_cons_zero, List.getElem_cons_succ, List.setIfInBounds_toArray, List.set_cons_zero, List.set_cons_succ]
            refine wpAnyH_ready (rs := [5]) (by kernel_rfl) (by simp) (AllReadyH.cons rfl (fun K hK => ?_) AllReadyH.nil)
            go_simp
            go_wp2_with (go_at_call 48; refine (CC.out _).mono ?_; rintro e wq ⟨rfl, hbq⟩)
            have sq : BAt wq E [.bool al, .string pb] ∧ Below w.heap.size w wq := ⟨h0.1.below hbq, h0.2.trans (hbq.mono h0.2.size)⟩
            have HOQ : Hid (wq.ownsRow w.heap.size 58 2 u4 (FF.length + j) (lcells (FF ++ x.ln.take j))) := own_below (w := V.drew) HOV.out hbq
            refine hK.out _ _ sq (fun h1 => ?_)
            clear hK K h0 hbq HOV
            refine wpAnyH_take (i := 6) (v := .agg #[.bool al, .string pb]) rfl (by kernel_rfl) (by kernel_rfl) (by kernel_rfl) (fun _ _ _ h => h) (Or.inl ⟨by rfl, fun W hW => ?_⟩) h1 ?_
            · clear hW
              go_simp
              try with_reducible rfl
            simp only [Act.put, List.getElem_toArray, List.getElem_cons_zero, List.getElem_cons_succ, List.setIfInBounds_toArray, List.set_cons_zero, List.set_cons_succ]
            refine wpAnyH_ready (rs := [7]) (by kernel_rfl) (by simp) (AllReadyH.cons rfl (fun K hK => ?_) AllReadyH.nil)
            go_simp
            have sr : BAt (wq.alloc (.cells #[.bool al, .string pb] 58)) E [.bool al, .string pb] ∧ Below w.heap.size w (wq.alloc (.cells #[.bool al, .string pb] 58)) := ⟨sq.1.alloc _, sq.2.alloc sq.2.size _⟩
            refine hK.out _ _ sr (fun h2 => ?_)
            clear hK K h1
            refine wpAnyH_ready (rs := [8]) (by kernel_rfl) (by simp) (AllReadyH.cons rfl (fun K hK => ?_) AllReadyH.nil)
            rw [if_pos (by rfl)]
            refine wp_append_own _ (.tmp 29) (.tmp 36) 29 rfl w.heap.size 58 i0 (.agg #[.bool false, .string ⟨#[]⟩]) 2 24 Try.underlying29 hi hz0 hz1 hz2 rfl (by decide) u4 (FF.length + j) (lcells (FF ++ x.ln.take j)) rfl (HOQ.out.alloc _) ⟨wq.heap.size, 0, none⟩ 1 1 [.bool al, .string pb] rfl rfl (fun jj u hj => by
              rw [Addr.add_lit, Nat.zero_add]
              exact (BAt.new wq #[.bool al, .string pb] 58).1 jj u hj) (by intro u hu; simp at hu; rcases hu with rfl | rfl <;> rfl) (by unfold maxLen; omega) (by omega) sr.2.size ?_
            intro v9 w9 o9 g9 _
            have s9 : BAt w9 E [.bool al, .string pb] ∧ Below w.heap.size w w9 := ⟨sr.1.same g9.size (g9.block E sr.1.2.2 fun e => by have := HUE.out E e.symm; omega), sr.2.grown g9 sr.2.size fun b e => (HUE.out b e).1⟩
            refine hK.out _ _ s9 (fun h3 => ?_)
            clear hK K
            refine wpAnyH_take (i := 9) (v := ?_) rfl (by kernel_rfl) (by kernel_rfl) (by kernel_rfl) (fun _ _ _ h => h) (Or.inl ⟨by rfl, fun W hW => ?_⟩) h3 ?_
            rotate_left
            · clear hW
              go_simp
              try with_reducible rfl
            refine wpAnyH_done (by kernel_rfl) ?_ _
            have HO9 : Hid (w9.ownsRow w.heap.size 58 2 v9 (FF.length + (j + 1)) (lcells (FF ++ x.ln.take (j + 1)))) := by
              show World.ownsRow _ _ _ _ _ _ _
              rw [HNX.out, lcells_append, lcells_one]
              exact o9
            have B9 := s9.2
            clear o9 s9 g9 h3 h2 sr sq HOQ AV BV CC HUE HNX
            simp only [Act.put, List.getElem_toArray, List.getElem_cons_zero, List.getElem_cons_succ, List.setIfInBounds_toArray, List.set_cons_zero, List.set_cons_succ]
            go_wp2_with fail
            go_roundw
            case rel => exact ⟨j + 1, by omega, by go_num, HO9, B9⟩
            case measure => simp [intOf] <;> omega
          · have hji : ¬ (j : Int) < x.ln.length := by omega
            have HO2 : Hid (wr.ownsRow w.heap.size 58 2 u4 (forL (l.take (k + 1)) n).length (lcells (forL (l.take (k + 1)) n))) := by
              show World.ownsRow _ _ _ _ _ _ _
              rw [HF1.out, List.length_append]
              have := HO.out
              rwa [show j = x.ln.length by omega, List.take_length] at this
            clear HO
            go_wp2_with fail
            go_roundw
            case rel => exact ⟨k + 1, by omega, by go_num, by rw [HH1.out], HO2, hbel⟩
            case measure => simp [intOf] <;> omega
    · have hki : ¬ (k : Int) < l.length := by omega
      have HE : Hid (l.take k = l) := List.take_of_length_le (by omega)
      have HO1 : Hid (wr.ownsRow w.heap.size 58 2 u4 (forL l n).length (lcells (forL l n))) := by have := HO.out; rwa [HE.out] at this
      have HB1 : Hid (hasP (l.take k) n = hasP l n) := by show _ = _; rw [HE.out]
      clear HO
      go_wp2_with fail
      go_ret2
      exact ⟨_, by rw [HB1.out]; rfl, HO1.out, hbel⟩
set_option maxHeartbeats 2000000 in
theorem implLinesFor (l : List PT) (v : Value) (a : ByteArray) (w : World) (hN : sumP l ≤ 1048576) (ha : a.size ≤ 1048576) (h : PartRow w v l) :
    Calls Try.prog 9 #[.agg #[v], .string a] w fun e w' => ∃ v', e = .returned v' ∧ w'.ownsRow w.heap.size 58 2 v' (lfL l a).length (lcells (lfL l a)) ∧ Below w.heap.size w w' := by
  obtain ⟨O, hO⟩ : ∃ O, O = w.alloc (.cells #[v] 26) := ⟨_, rfl⟩
  have bO : Below w.heap.size w O := by rw [hO]; exact (Below.refl _ _).alloc (Nat.le_refl _) _
  have AO : BAt O w.heap.size [v] := by rw [hO]; exact BAt.new w #[v] _
  have CA : Hid (∀ W, Calls Try.prog 10 #[.string a] W fun e w' => e = .returned (.string (agV a)) ∧ Below W.heap.size W w') := fun W => implAgentOf a W ha
  have CF : Hid (∀ n W, Below w.heap.size w W → Calls Try.prog 27 #[v, .string n] W fun e w' => ∃ v', e = .returned (.tuple #[v', .bool (hasP l n)]) ∧ w'.ownsRow W.heap.size 58 2 v' (forL l n).length (lcells (forL l n)) ∧ Below W.heap.size W w') := fun n W hW => implLinesOf l v n W hN (h.below hW)
  have HL : Hid (lfL l a = if hasP l (agV a) = true then forL l (agV a) else forL l starV) := rfl
  obtain ⟨ao, cap, hv⟩ := h.slice
  subst hv
  clear h hN
  generalize agV a = n at *
  generalize lfL l a = R at *
  have hz0 := AO.2.2
  go_enter Try.func9, Try.ntmps9
  go_upto_region 1 with fail
  rw [← hO]
  clear hO
  have c0 := AO.1 0 _ rfl
  go_region_with (first
    | (go_at_call 10; refine (CA.out _).mono ?_; rintro e wa ⟨rfl, ba⟩; have ca := (ba.cell (p := ⟨w.heap.size, 0, none⟩) hz0).trans c0)
    | (go_at_call 27; refine (CF.out _ _ (bO.drew.trans (ba.mono bO.size))).mono ?_; rintro e wb ⟨vb, rfl, ob, bb⟩))
  all_goals
    have B1 := ba.trans (bb.mono ba.size)
    have B2 := bO.drew.trans (B1.mono bO.size)
    have c1 := (B1.cell (p := ⟨w.heap.size, 0, none⟩) hz0).trans c0
    obtain ⟨xo, xc, rfl⟩ := (LineRow.of_own' ob).slice
    cases hh : hasP l n with
    | true =>
      have HR : Hid (wb.ownsRow w.heap.size 58 2 (.slice xo (forL l n).length xc) R.length (lcells R)) := by
        show World.ownsRow _ _ _ _ _ _ _
        rw [HL.out, if_pos hh]
        exact own_wide0 ob (by have := bO.size; have := ba.size; simp at this; omega)
      clear ob bb ba
      go_wp2_with fail
      go_ret
      exact ⟨_, rfl, HR.out, B2⟩
    | false =>
      have HR : Hid (R = forL l starV) := by
        show _ = _
        rw [HL.out, if_neg (by rw [hh]; decide)]
      clear ob bb ba
      go_wp2_with fail
      refine (CF.out starV _ B2).mono ?_
      rintro e wd ⟨vd, rfl, od, bd⟩
      have B3 := B2.trans (bd.mono B2.size)
      have OD : Hid (wd.ownsRow w.heap.size 58 2 vd R.length (lcells R)) := by
        show World.ownsRow _ _ _ _ _ _ _
        rw [HR.out]
        exact own_wide0 od B2.size
      clear od bd B2
      go_wp2_with fail
      go_ret
      exact ⟨_, rfl, OD.out, B3⟩
end Go.Proofs.Ytjdnemjcjodboaa
