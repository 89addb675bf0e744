/- Contracts of the laws' helpers that copy sites, and queues: what comes is owned. -/
import Derived.Test.YtcjblhiihgdljaaGreatRows
import Derived.Test.YtcjblhiihgdljaaGreatSitOwn
import Derived.Test.YtcjblhiihgdljaaGreatSumZ
import Derived.Test.YtcjblhiihgdljaaGreatSitEq
import Derived.Test.YtcjblhiihgdljaaGreatWtTo
import Derived.Test.YtcjblhiihgdljaaGreatLsTo
namespace Go.Proofs.YtcjblhiihgdljaaGreat
open Go.RowKit
set_option linter.unusedVariables false

theorem si_result1 {fn : Func} {q : Tmp} (h : fn.results = #[.cell q 43]) (tmps : Array Value) (W : World) (B : Nat) (a b c : Value)
    (hp : tmps[q]?.getD undef = .pointer (some ⟨B, 0, none⟩)) (hx : BAt W B [a, b, c]) : (results fn tmps).run Tryz.prog W = .ok (.agg #[a, b, c]) W := by
  have c0 := hx.1 0 _ rfl
  have c1 := hx.1 1 _ rfl
  have c2 := hx.1 2 _ rfl
  simp [results, h, hp, asAddr, go_sem, c0, c1, c2, Addr.add_lit]
theorem sch_result1 {fn : Func} {q : Tmp} (h : fn.results = #[.cell q 27]) (tmps : Array Value) (W : World) (B : Nat) (a b c d e f : Value)
    (hp : tmps[q]?.getD undef = .pointer (some ⟨B, 0, none⟩)) (hx : BAt W B [a, b, c, d, e, f]) : (results fn tmps).run Tryz.prog W = .ok (.agg #[a, b, c, d, e, f]) W := by
  have c0 := hx.1 0 _ rfl
  have c1 := hx.1 1 _ rfl
  have c2 := hx.1 2 _ rfl
  have c3 := hx.1 3 _ rfl
  have c4 := hx.1 4 _ rfl
  have c5 := hx.1 5 _ rfl
  simp [results, h, hp, asAddr, go_sem, c0, c1, c2, c3, c4, c5, Addr.add_lit]
set_option maxHeartbeats 4000000 in
theorem toSitC (x : SiteV) (p : Value) (w : World) (hn : x.w.length ≤ 1073741824) (hp : WtRow w p x.w) :
    Calls Tryz.prog 128 #[.agg #[.string x.n, .int .i64 x.r, p]] w fun e w' => ∃ ao cap, e = .returned (.agg #[.string x.n, .int .i64 x.r, .slice ao x.w.length cap]) ∧ Hid (w'.ownsRow w.heap.size 83 3 (.slice ao x.w.length cap) x.w.length (wtcells x.w)) ∧ Below w.heap.size w w' := by
  obtain ⟨n, r, l⟩ := x
  dsimp only at hn hp ⊢
  obtain ⟨O, hO⟩ : ∃ O, O = ((w.alloc (.cells #[.string n, .int .i64 r, p] 149)).alloc (.cells #[.string ⟨#[]⟩, .int .i64 0, .slice none 0 0] 43)).alloc (.cells #[.string ⟨#[]⟩, .int .i64 0, .slice none 0 0] 43) := ⟨_, rfl⟩
  have hbO : Below w.heap.size w O := by rw [hO]; exact (((Below.refl _ _).alloc (Nat.le_refl _) _).alloc (by simp) _).alloc (by simp; omega) _
  have hzO : O.heap.size = w.heap.size + 3 := by rw [hO]; simp
  have A0 : BAt O w.heap.size [.string n, .int .i64 r, p] := by rw [hO]; exact ((BAt.new w #[.string n, .int .i64 r, p] _).alloc _).alloc _
  have A1 : BAt O (w.heap.size + 1) [.string ⟨#[]⟩, .int .i64 0, .slice none 0 0] := by
    rw [hO]
    have := BAt.new (w.alloc (.cells #[.string n, .int .i64 r, p] 149)) #[.string ⟨#[]⟩, .int .i64 0, .slice none 0 0] 43
    rw [World.size_alloc] at this
    exact this.alloc _
  have A2 : BAt O (w.heap.size + 1 + 1) [.string ⟨#[]⟩, .int .i64 0, .slice none 0 0] := by
    rw [hO]
    have := BAt.new ((w.alloc (.cells #[.string n, .int .i64 r, p] 149)).alloc (.cells #[.string ⟨#[]⟩, .int .i64 0, .slice none 0 0] 43)) #[.string ⟨#[]⟩, .int .i64 0, .slice none 0 0] 43
    rw [World.size_alloc, World.size_alloc] at this
    exact this
  obtain ⟨V, hV⟩ : ∃ V, V = (O.setCell ⟨w.heap.size + 1 + 1, 0, none⟩ (.string n)).setCell ⟨w.heap.size + 1 + 1, 1, none⟩ (.int .i64 r) := ⟨_, rfl⟩
  have hbV : Below w.heap.size w V := by rw [hV]; exact (hbO.setCell (by simp; omega) _).setCell (by simp; omega) _
  have hzV : V.heap.size = w.heap.size + 3 := by rw [hV]; simp [hzO]
  have E0 : BAt V w.heap.size [.string n, .int .i64 r, p] := by rw [hV]; exact (A0.other (by omega) 0 _).other (by omega) 1 _
  have E1 : BAt V (w.heap.size + 1) [.string ⟨#[]⟩, .int .i64 0, .slice none 0 0] := by rw [hV]; exact (A1.other (by omega) 0 _).other (by omega) 1 _
  have E2 : BAt V (w.heap.size + 1 + 1) [.string n, .int .i64 r, .slice none 0 0] := by rw [hV]; exact (A2.set 0 (by simp) _).set 1 (by simp) _
  have CT := hidM (toWts l p V hn (hp.below hbV))
  obtain ⟨pa, pc, rfl⟩ := hp.slice
  clear hp hn
  have hzV2 := hidM hzV
  clear hzV hzO
  have c0 := A0.1 0 _ rfl
  have c1 := A0.1 1 _ rfl
  have c2 := A0.1 2 _ rfl
  have o0 := A2.1 0 _ rfl
  have o1 := A2.1 1 _ rfl
  have f2 := A2.2.1
  have q2 := E0.1 2 _ rfl
  go_enter Tryz.func128, Tryz.ntmps128
  go_upto_region 2 with fail
  rw [← hO]
  clear hO
  go_upto_region 4 with fail
  rw [← hV]
  clear hV
  go_wp2_with fail
  refine CT.out.mono ?_
  rintro e w1 ⟨bo, bc, rfl, ob, b1⟩
  have B1 := hbV.trans (b1.mono hbV.size)
  have F1 := E1.below b1
  have F2 := E2.below b1
  have OB := ob
  have hz1 := b1.size
  clear ob b1 CT A0 A1 A2 E0 E1 E2 c0 c1 c2 o0 o1 f2 q2 hbO hbV
  have r0 := F1.1 0 _ rfl
  have r1 := F1.1 1 _ rfl
  have r2 := F1.1 2 _ rfl
  have f1 := F1.2.1
  have s0 := F2.1 0 _ rfl
  have s1 := F2.1 1 _ rfl
  have s2 := F2.1 2 _ rfl
  have f2 := F2.2.1
  go_wp2_with fail
  refine bodyPost_ret (si_result1 rfl _ _ (w.heap.size + 1) (.string n) (.int .i64 r) (.slice bo l.length bc) rfl ((((F1.other (by omega) 2 _).set 0 (by simp) _).set 1 (by simp) _).set 2 (by simp) _)) rfl ⟨_, _, rfl, ?_, ?_⟩
  · have := hzV2.out
    exact own_wide1 (own_put (own_put (own_put (own_put OB.out (by omega) _ _) (by omega) _ _) (by omega) _ _) (by omega) _ _) (by omega)
  · exact (((B1.setCell (by simp; omega) _).setCell (by simp) _).setCell (by simp) _).setCell (by simp) _
theorem si_oneCell (cs : List SiV) (h : ∀ i, i < cs.length → ∃ ao n c, (cs.getD i siv0).q = .slice ao n c) : ∀ u ∈ sicells cs, u.oneCell' = true := by
  intro u hu
  obtain ⟨x, hx, hu⟩ := List.mem_flatMap.1 hu
  obtain ⟨i, hi, rfl⟩ := List.getElem_of_mem hx
  obtain ⟨ao, n, c, hq⟩ := h i hi
  rw [List.getD_eq_getElem?_getD, List.getElem?_eq_getElem hi] at hq
  simp [sivs] at hu
  rcases hu with rfl | rfl | rfl
  · rfl
  · rfl
  · rw [show cs[i].q = .slice ao n c from hq]; rfl
set_option maxHeartbeats 4000000 in
theorem toSits (l : List SiteV) (v : Value) (w : World) (hn : SitFew l) (h : SitRow w v l) :
    Calls Tryz.prog 82 #[v] w fun e w' => ∃ ao cap, e = .returned (.slice ao l.length cap) ∧ SitOwn w' w.heap.size w'.heap.size (.slice ao l.length cap) l ∧ Below w.heap.size w w' := by
  obtain ⟨i0, hi, hz0, hz1, hz2⟩ := info_parts Tryz.infoSi
  obtain ⟨hn1, hn2⟩ := hn
  rcases h.cases with ⟨rfl, ao, cap, rfl⟩ | ⟨h0, b, off, cap, rfl, hb, hc⟩
  · clear hn1 hn2 h
    go_enter Tryz.func82, Tryz.ntmps82
    go_wp2_with (at_make; refine wpList_make_full _ rfl _ _ 24 rfl w.heap.size 43 i0 (.agg #[.string ⟨#[]⟩, .int .i64 0, .slice none 0 0]) 3 Tryz.underlying24 hi hz0 hz1 _ _ _ _ 0 rfl rfl (by omega) (by omega) (by rw [hz2]; omega) (by unfold maxLen; omega) (Nat.le_refl _) ?_)
    intro wm hmo hgm
    have Bm : Below w.heap.size w wm := (Below.refl _ _).grown hgm (Nat.le_refl _) (fun k hk => by cases hk)
    have HMO : Hid (SitOwn wm w.heap.size wm.heap.size (.slice (some ⟨w.heap.size, 0, none⟩) 0 0) []) := ⟨[], (by simpa [madeCells, sicells] using hmo), fun b hb => (hmo.lt b hb).2, SitPart.nil _ _ _⟩
    clear hgm hmo
    go_wp2
    refine wp_loop_rounds 1 ?_
    rw [rounds_succ]
    go_wp2
    go_ret
    exact ⟨_, _, rfl, HMO.out, Bm⟩
  · have HC : Hid (∀ i, i < l.length → SitAt w b (off + i * 3) (l.getD i sitv0)) := hc
    have HZ := hidM hn2
    clear hc h hn2
    go_enter Tryz.func82, Tryz.ntmps82
    go_wp2_with (at_make; refine wpList_make_full _ rfl _ _ 24 rfl w.heap.size 43 i0 (.agg #[.string ⟨#[]⟩, .int .i64 0, .slice none 0 0]) 3 Tryz.underlying24 hi hz0 hz1 _ _ _ _ l.length rfl rfl (by omega) (by omega) (by rw [hz2]; omega) (by unfold maxLen; omega) (Nat.le_refl _) ?_)
    intro wm hmo hgm
    have Bm : Below w.heap.size w wm := (Below.refl _ _).grown hgm (Nat.le_refl _) (fun k hk => by cases hk)
    obtain ⟨xs0, hmo⟩ : ∃ xs0, wm.ownsRow w.heap.size 43 3 (.slice (some ⟨w.heap.size, 0, none⟩) l.length l.length) l.length xs0 := ⟨_, hmo⟩
    clear hgm
    go_wp2
    go_loopw [4] (fun i wr => ∃ (k : Nat) (xs : List Value) (cs : List SiV), k ≤ l.length ∧ i = .int .i64 k ∧ wr.ownsRow w.heap.size 43 3 (.slice (some ⟨w.heap.size, 0, none⟩) l.length l.length) l.length xs ∧ Hid (xs.take (k * 3) = sicells cs) ∧ Hid (SitPart wr w.heap.size wr.heap.size cs (l.take k)) ∧ Below w.heap.size w wr) (fun i _ => l.length - (intOf i).toNat)
    case atStart => exact ⟨0, xs0, [], Nat.zero_le _, rfl, hmo, (by show _ = _; rw [Nat.zero_mul, List.take_zero]; rfl), (by show SitPart _ _ _ _ _; rw [List.take_zero]; exact SitPart.nil _ _ _), Bm⟩
    case round =>
      obtain ⟨k, xs, cs, hk, rfl, hown, HI, HP, hbel⟩ := hrel
      clear hmo Bm
      by_cases hlt : k < l.length
      · have hki : (k : Int) < l.length := by omega
        obtain ⟨c0, c1, q, c2, c3⟩ := (HC.out k hlt).below hbel hb
        have hcl : cs.length = k := by have := HP.out.1; rw [List.length_take] at this; omega
        have hw0 : w.heap.size < wr.heap.size := (hown.lt w.heap.size rfl).2
        have CR : Hid (Calls Tryz.prog 128 #[.agg #[.string (l.getD k sitv0).n, .int .i64 (l.getD k sitv0).r, q]] wr fun e w' => ∃ ao cap, e = .returned (.agg #[.string (l.getD k sitv0).n, .int .i64 (l.getD k sitv0).r, .slice ao (l.getD k sitv0).w.length cap]) ∧ Hid (w'.ownsRow wr.heap.size 83 3 (.slice ao (l.getD k sitv0).w.length cap) (l.getD k sitv0).w.length (wtcells (l.getD k sitv0).w)) ∧ Below wr.heap.size wr w') := toSitC (l.getD k sitv0) q wr (HZ.out k hlt) c3
        obtain ⟨qa, qc, hqq⟩ := c3.slice
        have HN : Hid (∀ (W W' : World) ao cap, Below wr.heap.size wr W → W.ownsRow wr.heap.size 83 3 (.slice ao (l.getD k sitv0).w.length cap) (l.getD k sitv0).w.length (wtcells (l.getD k sitv0).w) → W.heap.size = W'.heap.size → (∀ b, b < W.heap.size → b ≠ w.heap.size → W'.heap[b]? = W.heap[b]?) →
            SitPart W' w.heap.size W'.heap.size (cs ++ [⟨(l.getD k sitv0).n, (l.getD k sitv0).r, .slice ao (l.getD k sitv0).w.length cap⟩]) (l.take (k + 1)) ∧ (setSi xs k ⟨(l.getD k sitv0).n, (l.getD k sitv0).r, .slice ao (l.getD k sitv0).w.length cap⟩).take ((k + 1) * 3) = sicells (cs ++ [⟨(l.getD k sitv0).n, (l.getD k sitv0).r, .slice ao (l.getD k sitv0).w.length cap⟩])) := fun W W' ao cap bW oW hs hw => by
          refine ⟨?_, setSi_take xs l.length k cs _ hown.1 hlt hcl HI.out⟩
          rw [List.take_succ_eq_append_getElem hlt, show l[k] = l.getD k sitv0 by rw [List.getD_eq_getElem?_getD, List.getElem?_eq_getElem hlt]; rfl]
          have P1 : SitPart W' w.heap.size wr.heap.size cs (l.take k) := HP.out.same (Nat.le_refl _) fun b hb h1 h2 => by
            obtain ⟨i, hi1, hi2⟩ := hb
            have hne : b ≠ w.heap.size := fun e => by
              have hq := (HP.out.2.1 i (by rw [← HP.out.1]; exact hi1)).2.2.1
              exact apt_ty hown hq t_site_wait b (by rw [e]; rfl) hi2
            rw [hw b (by have := bW.size; omega) hne]
            exact bW.block b h2
          refine P1.snoc (by have := bW.size; omega) ⟨rfl, rfl, ?_, fun b hb => ?_⟩ fun b hb => ?_
          · exact own_wide1 (own_at oW fun b hb => hw b (oW.lt b hb).2 (by have := (oW.lt b hb).1; omega)) (by omega)
          · have := (oW.lt b hb).2; omega
          · exact (oW.lt b hb).1
        clear c3 HP HI hcl
        generalize (l.getD k sitv0).n = x0 at *
        generalize (l.getD k sitv0).r = x1 at *
        generalize (l.getD k sitv0).w = xw at *
        generalize wtcells xw = XW at *
        generalize xw.length = XN at *
        subst hqq
        go_wp2_with fail
        refine CR.out.mono ?_
        rintro e w1 ⟨bo, bc, rfl, ob, b1⟩
        have own1 := own_below hown b1
        have B1 := hbel.trans (b1.mono hbel.size)
        have hfz0 := own1.frozenAt (k * 3)
        have hfz1 := own1.frozenAt (k * 3 + 1)
        have hfz2 := own1.frozenAt (k * 3 + 2)
        obtain ⟨⟨u0, hu0⟩, ⟨u1, hu1⟩, ⟨u2, hu2⟩⟩ := own_si own1 k hlt
        obtain ⟨S1, G1⟩ := own1.stored (k * 3) (.string x0)
        obtain ⟨S2, G2⟩ := S1.stored (k * 3 + 1) (.int .i64 x1)
        obtain ⟨S3, G3⟩ := S2.stored (k * 3 + 2) (.slice bo XN bc)
        have GG := grow_trans (grow_trans G1 G2) G3
        obtain ⟨P2, T2⟩ := HN.out w1 (((w1.setCell ⟨w.heap.size, k * 3, none⟩ (.string x0)).setCell ⟨w.heap.size, k * 3 + 1, none⟩ (.int .i64 x1)).setCell ⟨w.heap.size, k * 3 + 2, none⟩ (.slice bo XN bc)) bo bc b1 ob.out (by simp) (fun b h1 h2 => GG.block b h1 (fun e => h2 (by injection e)))
        have HP2 := hidM P2
        have HT2 := hidM T2
        unfold setSi at HT2
        have B2 := B1.grown GG B1.size (fun k hk => by cases hk; exact Nat.le_refl _)
        clear S1 S2 G1 G2 G3 GG own1 B1 b1 CR HN hown c0 c1 c2 hbel P2 T2 ob
        go_wp2_with fail
        go_roundw
        case rel => exact ⟨k + 1, _, _, by omega, by go_num, S3, HT2, HP2, B2⟩
        case measure => simp [intOf]; omega
      · have hki : ¬ (k : Int) < l.length := by omega
        have hke : k = l.length := by omega
        have RR : Hid (SitOwn wr w.heap.size wr.heap.size (.slice (some ⟨w.heap.size, 0, none⟩) l.length l.length) l) := by
          have e := HI.out
          have p := HP.out
          rw [hke, List.take_length] at p
          rw [hke, List.take_of_length_le (by have := hown.1; omega)] at e
          rw [e] at hown
          exact ⟨cs, hown, fun b hb => (hown.lt b hb).2, p⟩
        clear hown HI HP hke
        go_wp2_with fail
        go_ret
        exact ⟨_, _, rfl, RR.out, hbel⟩
set_option maxHeartbeats 4000000 in
theorem toSch (d sp nw sq : Int) (si : List SiteV) (le : List LsV) (p q : Value) (w : World) (hn : SitFew si) (hl : le.length ≤ 1073741824) (hp : SitRow w p si) (hq : LsRow w q le) :
    Calls Tryz.prog 33 #[.agg #[.int .i64 d, .int .i64 sp, .int .i64 nw, .int .i64 sq, p, q]] w fun e w' => ∃ ao ac bo bc, e = .returned (.agg #[.int .i64 d, .int .i64 sp, .int .i64 nw, .int .i64 sq, .slice ao si.length ac, .slice bo le.length bc]) ∧ SchOwn w' w.heap.size w'.heap.size (.slice ao si.length ac) (.slice bo le.length bc) si le ∧ Below w.heap.size w w' := by
  obtain ⟨O, hO⟩ : ∃ O, O = ((w.alloc (.cells #[.int .i64 d, .int .i64 sp, .int .i64 nw, .int .i64 sq, p, q] 57)).alloc (.cells #[.int .i64 0, .int .i64 0, .int .i64 0, .int .i64 0, .slice none 0 0, .slice none 0 0] 27)).alloc (.cells #[.int .i64 0, .int .i64 0, .int .i64 0, .int .i64 0, .slice none 0 0, .slice none 0 0] 27) := ⟨_, rfl⟩
  have hbO : Below w.heap.size w O := by rw [hO]; exact (((Below.refl _ _).alloc (Nat.le_refl _) _).alloc (by simp) _).alloc (by simp; omega) _
  have hzO : O.heap.size = w.heap.size + 3 := by rw [hO]; simp
  have A0 : BAt O w.heap.size [.int .i64 d, .int .i64 sp, .int .i64 nw, .int .i64 sq, p, q] := by rw [hO]; exact ((BAt.new w #[.int .i64 d, .int .i64 sp, .int .i64 nw, .int .i64 sq, p, q] _).alloc _).alloc _
  have A1 : BAt O (w.heap.size + 1) [.int .i64 0, .int .i64 0, .int .i64 0, .int .i64 0, .slice none 0 0, .slice none 0 0] := by
    rw [hO]
    have := BAt.new (w.alloc (.cells #[.int .i64 d, .int .i64 sp, .int .i64 nw, .int .i64 sq, p, q] 57)) #[.int .i64 0, .int .i64 0, .int .i64 0, .int .i64 0, .slice none 0 0, .slice none 0 0] 27
    rw [World.size_alloc] at this
    exact this.alloc _
  have A2 : BAt O (w.heap.size + 1 + 1) [.int .i64 0, .int .i64 0, .int .i64 0, .int .i64 0, .slice none 0 0, .slice none 0 0] := by
    rw [hO]
    have := BAt.new ((w.alloc (.cells #[.int .i64 d, .int .i64 sp, .int .i64 nw, .int .i64 sq, p, q] 57)).alloc (.cells #[.int .i64 0, .int .i64 0, .int .i64 0, .int .i64 0, .slice none 0 0, .slice none 0 0] 27)) #[.int .i64 0, .int .i64 0, .int .i64 0, .int .i64 0, .slice none 0 0, .slice none 0 0] 27
    rw [World.size_alloc, World.size_alloc] at this
    exact this
  obtain ⟨V, hV⟩ : ∃ V, V = ((((O.setCell ⟨w.heap.size + 1 + 1, 0, none⟩ (.int .i64 d)).setCell ⟨w.heap.size + 1 + 1, 1, none⟩ (.int .i64 sp)).setCell ⟨w.heap.size + 1 + 1, 2, none⟩ (.int .i64 nw)).setCell ⟨w.heap.size + 1 + 1, 3, none⟩ (.int .i64 sq)) := ⟨_, rfl⟩
  have hbV : Below w.heap.size w V := by rw [hV]; exact (((hbO.setCell (by simp; omega) _).setCell (by simp; omega) _).setCell (by simp; omega) _).setCell (by simp; omega) _
  have hzV : V.heap.size = w.heap.size + 3 := by rw [hV]; simp [hzO]
  have E0 : BAt V w.heap.size [.int .i64 d, .int .i64 sp, .int .i64 nw, .int .i64 sq, p, q] := by rw [hV]; exact (((A0.other (by omega) 0 _).other (by omega) 1 _).other (by omega) 2 _).other (by omega) 3 _
  have E1 : BAt V (w.heap.size + 1) [.int .i64 0, .int .i64 0, .int .i64 0, .int .i64 0, .slice none 0 0, .slice none 0 0] := by rw [hV]; exact (((A1.other (by omega) 0 _).other (by omega) 1 _).other (by omega) 2 _).other (by omega) 3 _
  have E2 : BAt V (w.heap.size + 1 + 1) [.int .i64 d, .int .i64 sp, .int .i64 nw, .int .i64 sq, .slice none 0 0, .slice none 0 0] := by rw [hV]; exact (((A2.set 0 (by simp) _).set 1 (by simp) _).set 2 (by simp) _).set 3 (by simp) _
  have CT := hidM (toSits si p V hn (hp.below hbV))
  have CL : Hid (∀ W, Below w.heap.size w W → Calls Tryz.prog 83 #[q] W fun e w' => ∃ ao cap, e = .returned (.slice ao le.length cap) ∧ Hid (w'.ownsRow W.heap.size 51 4 (.slice ao le.length cap) le.length (lscells le)) ∧ Below W.heap.size W w') := fun W hW => toLss le q W hl (hq.below hW)
  obtain ⟨pa, pc, rfl⟩ := hp.slice
  obtain ⟨qa, qc, rfl⟩ := hq.slice
  clear hp hn hq hl
  have hzV2 := hidM hzV
  clear hzV hzO
  have c0 := A0.1 0 _ rfl
  have c1 := A0.1 1 _ rfl
  have c2 := A0.1 2 _ rfl
  have c3 := A0.1 3 _ rfl
  have o0 := A2.1 0 _ rfl
  have o1 := A2.1 1 _ rfl
  have o2 := A2.1 2 _ rfl
  have o3 := A2.1 3 _ rfl
  have f2 := A2.2.1
  have q4 := E0.1 4 _ rfl
  go_enter Tryz.func33, Tryz.ntmps33
  go_upto_region 2 with fail
  rw [← hO]
  clear hO
  go_upto_region 6 with fail
  rw [← hV]
  clear hV
  go_wp2_with fail
  refine CT.out.mono ?_
  rintro e w1 ⟨bo, bc, rfl, ob, b1⟩
  have B1 := hbV.trans (b1.mono hbV.size)
  have F0 := E0.below b1
  have F1 := E1.below b1
  have F2 := E2.below b1
  have hz1 := hidM b1.size
  have OB := hidM ob
  clear ob b1 CT A0 A1 A2 E0 E1 E2 c0 c1 c2 c3 o0 o1 o2 o3 f2 q4 hbO hbV
  obtain ⟨X, hX⟩ : ∃ X, X = w1.setCell ⟨w.heap.size + 1 + 1, 4, none⟩ (.slice bo si.length bc) := ⟨_, rfl⟩
  have hzX : X.heap.size = w1.heap.size := by rw [hX]; simp
  have BX : Below w.heap.size w X := by rw [hX]; exact B1.setCell (by simp; omega) _
  have hzz : w.heap.size + 3 ≤ w1.heap.size := by have h1 := hzV2.out; have h2 := hz1.out; omega
  have G0 : BAt X w.heap.size [.int .i64 d, .int .i64 sp, .int .i64 nw, .int .i64 sq, .slice pa si.length pc, .slice qa le.length qc] := by rw [hX]; exact F0.other (by omega) 4 _
  have G1 : BAt X (w.heap.size + 1) [.int .i64 0, .int .i64 0, .int .i64 0, .int .i64 0, .slice none 0 0, .slice none 0 0] := by rw [hX]; exact F1.other (by omega) 4 _
  have G2 : BAt X (w.heap.size + 1 + 1) [.int .i64 d, .int .i64 sp, .int .i64 nw, .int .i64 sq, .slice bo si.length bc, .slice none 0 0] := by rw [hX]; exact F2.set 4 (by simp) _
  have OX : Hid (SitOwn X V.heap.size w1.heap.size (.slice bo si.length bc) si) := OB.out.same (Nat.le_refl _) fun b h1 h2 => by rw [hX, Below.heap_setCell _ _ _ _ (by simp; have := hzV2.out; omega)]
  have CLX := hidM (CL.out X BX)
  have hzX2 := hidM hzX
  have hzz2 := hidM hzz
  clear hzX hzz CL B1 F0 F1 OB
  have s4 := F2.1 4 _ rfl
  have fs := F2.2.1
  clear F2
  go_upto_region 7 with fail
  rw [← hX]
  clear hX
  have q5 := G0.1 5 _ rfl
  go_wp2_with fail
  refine CLX.out.mono ?_
  rintro e w2 ⟨co, cc, rfl, oc, b2⟩
  have B2 := BX.trans (b2.mono BX.size)
  have H1 := G1.below b2
  have H2 := G2.below b2
  have OL := hidM oc.out
  have OY : Hid (SitOwn w2 V.heap.size w1.heap.size (.slice bo si.length bc) si) := OX.out.same (Nat.le_refl _) fun b h1 h2 => b2.block b (by have := hzX2.out; omega)
  have hz2 := hidM b2.size
  clear oc b2 CLX G0 G1 G2 q5 OX BX
  have r0 := H1.1 0 _ rfl
  have r1 := H1.1 1 _ rfl
  have r2 := H1.1 2 _ rfl
  have r3 := H1.1 3 _ rfl
  have r4 := H1.1 4 _ rfl
  have r5 := H1.1 5 _ rfl
  have f1 := H1.2.1
  have s0 := H2.1 0 _ rfl
  have s1 := H2.1 1 _ rfl
  have s2 := H2.1 2 _ rfl
  have s3 := H2.1 3 _ rfl
  have s4 := H2.1 4 _ rfl
  have s5 := H2.1 5 _ rfl
  have f2 := H2.2.1
  go_wp2_with fail
  refine bodyPost_ret (sch_result1 rfl _ _ (w.heap.size + 1) (.int .i64 d) (.int .i64 sp) (.int .i64 nw) (.int .i64 sq) (.slice bo si.length bc) (.slice co le.length cc) rfl (((((((H1.other (by omega) 5 _).set 0 (by simp) _).set 1 (by simp) _).set 2 (by simp) _).set 3 (by simp) _).set 4 (by simp) _).set 5 (by simp) _)) rfl ⟨_, _, _, _, rfl, ?_, ?_⟩
  · have e1 := hzV2.out
    have e2 := hzX2.out
    have e3 := hzz2.out
    have e4 := hz2.out
    have S0 : SchOwn w2 (w.heap.size + 3) w2.heap.size (.slice bo si.length bc) (.slice co le.length cc) si le := ⟨(OY.out.same (by omega) fun _ _ _ => rfl).wide (by omega), own_wide1 OL.out (by omega), fun b hb => (OL.out.lt b hb).2⟩
    refine (S0.same (by simp) fun b h1 h2 => ?_).wide (by omega)
    rw [Below.heap_setCell _ _ _ _ (by simp; omega), Below.heap_setCell _ _ _ _ (by simp; omega), Below.heap_setCell _ _ _ _ (by simp; omega), Below.heap_setCell _ _ _ _ (by simp; omega), Below.heap_setCell _ _ _ _ (by simp; omega), Below.heap_setCell _ _ _ _ (by simp; omega), Below.heap_setCell _ _ _ _ (by simp; omega)]
  · exact ((((((B2.setCell (by simp; omega) _).setCell (by simp) _).setCell (by simp) _).setCell (by simp) _).setCell (by simp) _).setCell (by simp) _).setCell (by simp) _
end Go.Proofs.YtcjblhiihgdljaaGreat
