/- The contract of the code's keysAndSeqs, and of the specification's l18All: all that is there. -/
import Derived.Test.YtcjblhiihgdljaaGreatRows
import Derived.Test.YtcjblhiihgdljaaGreatSchOkI3
import Derived.Test.YtcjblhiihgdljaaGreatOnlyIn
import Derived.Test.YtcjblhiihgdljaaGreatSitOwn
import Derived.Test.YtcjblhiihgdljaaGreatAppAt
import Derived.Maps.AppendAt
import Derived.Deep.RegionHeld3
namespace Go.Proofs.YtcjblhiihgdljaaGreat
open Go.RowKit
set_option linter.unusedVariables false
set_option linter.unusedSimpArgs false

theorem Tryz.infoStr18 : (Tryz.prog.info? 9).map (fun i => (i.zero, i.size, i.bytes)) = some (some (.string ⟨#[]⟩), 1, 16) := by kernel_rfl
theorem Tryz.infoInt18 : (Tryz.prog.info? 3).map (fun i => (i.zero, i.size, i.bytes)) = some (some (.int .i64 0), 1, 8) := by kernel_rfl
theorem t_str_int : (9 : TypeId) ≠ 3 := by decide
/-- Two rows of different types: the one stays where the other one turns. -/
theorem own_beside {w w' : World} {B B' : Nat} {e e' : TypeId} {size size' n n' : Nat} {v v' : Value} {xs xs' : List Value} (h : w.ownsRow B e size v n xs) (h' : w.ownsRow B' e' size' v' n' xs') (ht : e ≠ e') (hg : w.grownBy w' v'.ownBlock) : w'.ownsRow B e size v n xs :=
  h.kept hg (by
    cases hv : v.ownBlock with
    | none => exact .inl rfl
    | some b => exact .inr fun e2 => apt_ty h h' ht b hv e2.symm)
theorem bat_beside {w w' : World} {B T : Nat} {e : TypeId} {size n : Nat} {v : Value} {xs vs : List Value} (h : BAt w T vs) (ho : w.ownsRow B e size v n xs) (hg : w.grownBy w' v.ownBlock) (hT : ∀ b, v.ownBlock = some b → b ≠ T) : BAt w' T vs :=
  h.same hg.size (hg.block T h.2.2 fun e2 => hT T e2.symm rfl)
theorem scells_append (a b : List ByteArray) : scells (a ++ b) = scells a ++ scells b := by simp [scells]
theorem icells_append (a b : List Int) : icells (a ++ b) = icells a ++ icells b := by simp [icells]
theorem waitL_take (si : List SiteV) {k : Nat} (h : k < si.length) : waitL (si.take (k + 1)) = waitL (si.take k) ++ (si.getD k sitv0).w := by
  unfold waitL
  rw [List.take_succ_eq_append_getElem h, List.flatMap_append, List.getD_eq_getElem?_getD, List.getElem?_eq_getElem h]
  simp
theorem waitL_le (si : List SiteV) (k : Nat) : (waitL (si.take k)).length ≤ (waitL si).length := by
  have h : waitL si = waitL (si.take k) ++ waitL (si.drop k) := by
    unfold waitL
    rw [← List.flatMap_append, List.take_append_drop]
  rw [h, List.length_append]
  omega
theorem wtake_succ (l : List WtV) {m : Nat} (h : m < l.length) : l.take (m + 1) = l.take m ++ [l.getD m wtv0] := by
  rw [List.take_succ_eq_append_getElem h, List.getD_eq_getElem?_getD, List.getElem?_eq_getElem h]; rfl
theorem ltake_succ (l : List LsV) {m : Nat} (h : m < l.length) : l.take (m + 1) = l.take m ++ [l.getD m lsv0] := by
  rw [List.take_succ_eq_append_getElem h, List.getD_eq_getElem?_getD, List.getElem?_eq_getElem h]; rfl
/-- Two rows that the call owns: the keys, and the numbers. -/
structure TwoR (W : World) (B : Nat) (kv zv : Value) (ks : List ByteArray) (zs : List Int) : Prop where
  k : W.ownsRow B 9 1 kv ks.length (scells ks)
  z : W.ownsRow B 3 1 zv zs.length (icells zs)
theorem TwoR.below {W W' : World} {B : Nat} {kv zv : Value} {ks : List ByteArray} {zs : List Int} (h : TwoR W B kv zv ks zs) (hb : Below W.heap.size W W') : TwoR W' B kv zv ks zs := ⟨own_below h.k hb, own_below h.z hb⟩
theorem TwoR.wide {W : World} {B B' : Nat} {kv zv : Value} {ks : List ByteArray} {zs : List Int} (h : TwoR W B kv zv ks zs) (hb : B' ≤ B) : TwoR W B' kv zv ks zs := ⟨own_wide1 h.k hb, own_wide1 h.z hb⟩
/-- What keysAndSeqs answers. -/
def KasR (w : World) (si : List SiteV) (le : List LsV) (e : Ending) (w' : World) : Prop := ∃ ka kc za zc, e = .returned (.tuple #[.slice ka (keysL si le).length kc, .slice za (waitL si).length zc]) ∧ TwoR w' w.heap.size (.slice ka (keysL si le).length kc) (.slice za (waitL si).length zc) (keysL si le) ((waitL si).map (·.q)) ∧ Below w.heap.size w w'
set_option maxRecDepth 100000 in
set_option maxHeartbeats 16000000 in
theorem implKeysAndSeqs (d sp nw sq : Int) (si : List SiteV) (le : List LsV) (p q : Value) (w : World) (hw : (waitL si).length + le.length ≤ 200) (hn : si.length ≤ 200) (hp : SitRow w p si) (hq : LsRow w q le) :
    Calls Tryz.prog 57 #[.agg #[.int .i64 d, .int .i64 sp, .int .i64 nw, .int .i64 sq, p, q]] w fun e w' => KasR w si le e w' := by
  obtain ⟨is, his, hzs0, hzs1, hzs2⟩ := info_parts Tryz.infoStr18
  obtain ⟨ii, hii, hzi0, hzi1, hzi2⟩ := info_parts Tryz.infoInt18
  obtain ⟨O, hO⟩ : ∃ O, O = w.alloc (.cells #[.int .i64 d, .int .i64 sp, .int .i64 nw, .int .i64 sq, p, q] 27) := ⟨_, rfl⟩
  have bO : Below w.heap.size w O := by rw [hO]; exact (Below.refl _ _).alloc (Nat.le_refl _) _
  have AO : Hid (BAt O w.heap.size [.int .i64 d, .int .i64 sp, .int .i64 nw, .int .i64 sq, p, q]) := hidM (by rw [hO]; exact BAt.new w #[.int .i64 d, .int .i64 sp, .int .i64 nw, .int .i64 sq, p, q] _)
  have HOz : Hid (O.heap.size = w.heap.size + 1) := hidM (by rw [hO]; simp)
  have HS := hidM hp
  have HL := hidM hq
  obtain ⟨pa, pc, rfl⟩ := hp.slice
  obtain ⟨qa, qc, rfl⟩ := hq.slice
  clear hp hq
  have c4 := AO.out.1 4 _ rfl
  have HWT : Hid (∀ k, k < si.length → (waitL (si.take k)).length + (si.getD k sitv0).w.length ≤ 200) := fun k hk => by
    have h1 := waitL_take si hk
    have h2 := waitL_le si (k + 1)
    rw [h1, List.length_append] at h2
    omega
  go_enter Tryz.func57, Tryz.ntmps57
  go_upto_region 1 with fail
  rw [← hO]
  clear hO
  go_wp2_with fail
  go_loopw [2, 3, 13] (fun kv zv i wr => ∃ (k : Nat) (ka : Option Addr) (kc : Nat) (za : Option Addr) (zc N : Nat), k ≤ si.length ∧ i = .int .i64 k ∧ N ≤ 200 ∧ kv = .slice ka N kc ∧ zv = .slice za N zc ∧ Hid (N = (waitL (si.take k)).length) ∧ Hid (TwoR wr O.heap.size (.slice ka N kc) (.slice za N zc) ((waitL (si.take k)).map (·.k)) ((waitL (si.take k)).map (·.q))) ∧ Below O.heap.size O wr) (fun _ _ i _ => si.length - (intOf i).toNat)
  case atStart => exact ⟨0, none, 0, none, 0, 0, Nat.zero_le _, rfl, by omega, rfl, rfl, rfl, ⟨World.ownsRow_nil _ _ _ _, World.ownsRow_nil _ _ _ _⟩, Below.refl _ _⟩
  case round =>
    obtain ⟨k, ka, kc, za, zc, N, hk, rfl, hN, rfl, rfl, HN, HT, hbO⟩ := hrel
    have hbel : Below w.heap.size w wr := bO.trans (hbO.mono bO.size)
    by_cases hlt : k < si.length
    · have hki : (k : Int) < si.length := by omega
      rcases HS.out.cases with ⟨h0, _⟩ | ⟨_, g, off, cap, hpe, hg, hc⟩
      · rw [h0] at hlt; exact absurd hlt (Nat.not_lt_zero _)
      · injection hpe with e1 e2 e3
        subst e1
        obtain ⟨c0', c1', x, c2', c3⟩ := hc k hlt
        have c0 := (hbel.cell (p := ⟨g, off + k * 3, none⟩) hg).trans c0'
        have c1 := (hbel.cell (p := ⟨g, off + k * 3 + 1, none⟩) hg).trans c1'
        have c2 := (hbel.cell (p := ⟨g, off + k * 3 + 2, none⟩) hg).trans c2'
        have HX := hidM c3
        clear c0' c1' c2'
        obtain ⟨PK, hPK⟩ : ∃ PK : Nat → List WtV, PK = fun m => waitL (si.take k) ++ (si.getD k sitv0).w.take m := ⟨_, rfl⟩
        have HP0 : Hid (PK 0 = waitL (si.take k)) := hidM (by rw [hPK]; simp)
        have HPL : Hid (PK (si.getD k sitv0).w.length = waitL (si.take (k + 1))) := hidM (by rw [hPK, waitL_take si hlt]; simp)
        have HPS : Hid (∀ m, m < (si.getD k sitv0).w.length → PK (m + 1) = PK m ++ [(si.getD k sitv0).w.getD m wtv0]) := fun m hm => by rw [hPK]; dsimp only; rw [wtake_succ _ hm, List.append_assoc]
        have HPB : Hid (∀ m, (PK m).length ≤ 200) := fun m => by
          have h1 := HWT.out k hlt
          rw [hPK]
          simp only [List.length_append, List.length_take]
          omega
        obtain ⟨xa, xc, hxe⟩ := c3.slice
        have hXL0 := HWT.out k hlt
        clear hPK hc c3 e2 e3
        generalize (si.getD k sitv0).n = x0 at *
        generalize (si.getD k sitv0).r = x1 at *
        generalize hXW : (si.getD k sitv0).w = XW at *
        clear hXW
        have hXL : XW.length ≤ 200 := by omega
        clear hXL0
        obtain ⟨V, hV⟩ : ∃ V, V = wr.alloc (.cells #[.string x0, .int .i64 x1, x] 43) := ⟨_, rfl⟩
        have BV : Below wr.heap.size wr V := by rw [hV]; exact (Below.refl _ _).alloc (Nat.le_refl _) _
        have AV : BAt V wr.heap.size [.string x0, .int .i64 x1, x] := by rw [hV]; exact BAt.new wr #[.string x0, .int .i64 x1, x] _
        have v2 := AV.1 2 _ rfl
        have TV := hidM (HT.out.below BV)
        have BVO : Below O.heap.size O V := hbO.trans (BV.mono hbO.size)
        subst hxe
        go_upto_region 4 with fail
        rw [← hV]
        clear hV c0 c1 c2 AV
        go_wp2_with fail
        go_loopw [2, 3, 20] (fun kv zv i wi => ∃ (m : Nat) (ka : Option Addr) (kc : Nat) (za : Option Addr) (zc N : Nat), m ≤ XW.length ∧ i = .int .i64 m ∧ N ≤ 200 ∧ kv = .slice ka N kc ∧ zv = .slice za N zc ∧ Hid (N = (PK m).length) ∧ Hid (TwoR wi O.heap.size (.slice ka N kc) (.slice za N zc) ((PK m).map (·.k)) ((PK m).map (·.q))) ∧ Below O.heap.size O wi) (fun _ _ i _ => XW.length - (intOf i).toNat)
        case atStart => exact ⟨0, ka, kc, za, zc, N, Nat.zero_le _, rfl, hN, rfl, rfl, hidM (by rw [HP0.out]; exact HN.out), hidM (by rw [HP0.out]; exact TV.out), BVO⟩
        case round =>
          clear HN HT TV HP0 BV v2 hbO hbel
          obtain ⟨m, ka, kc, za, zc, N, hm, rfl, hN, rfl, rfl, HN, HT, hbi⟩ := hrel
          by_cases hmt : m < XW.length
          · have hmi : (m : Int) < XW.length := by omega
            have hbiw : Below w.heap.size w wr := bO.trans (hbi.mono bO.size)
            rcases HX.out with ⟨h0, _⟩ | ⟨_, g2, off2, cap2, hqe, hg2, hcq⟩
            · rw [h0] at hmt; exact absurd hmt (Nat.not_lt_zero _)
            · injection hqe with e1 e2 e3
              subst e1
              obtain ⟨c0, c1, c2⟩ := (hcq m hmt).below hbiw hg2
              have HPM := hidM (HPS.out m hmt)
              have HPN := HPB.out (m + 1)
              rw [HPM.out, List.length_append] at HPN
              simp only [List.length_cons, List.length_nil] at HPN
              have hN1 : N + 1 ≤ 200 := by have := HN.out; omega
              have HN2 : Hid (N + 1 = (PK (m + 1)).length) := hidM (by rw [HPM.out, List.length_append, ← HN.out]; rfl)
              have HT2 : Hid (∀ (W : World) ka' kc' za' zc', W.ownsRow O.heap.size 9 1 (.slice ka' (N + 1) kc') (N + 1) (scells ((PK m).map (·.k)) ++ [.string (XW.getD m wtv0).k]) → W.ownsRow O.heap.size 3 1 (.slice za' (N + 1) zc') (N + 1) (icells ((PK m).map (·.q)) ++ [.int .i64 (XW.getD m wtv0).q]) → TwoR W O.heap.size (.slice ka' (N + 1) kc') (.slice za' (N + 1) zc') ((PK (m + 1)).map (·.k)) ((PK (m + 1)).map (·.q))) := fun W ka' kc' za' zc' h1 h2 => by
                have hl := HN2.out
                refine ⟨?_, ?_⟩
                · rw [List.length_map, ← hl, HPM.out, List.map_append, scells_append]; exact h1
                · rw [List.length_map, ← hl, HPM.out, List.map_append, icells_append]; exact h2
              clear HPN HPM hcq e2 e3
              obtain ⟨TK0, TZ0⟩ := HT.out
              rw [List.length_map, ← HN.out] at TK0 TZ0
              clear HT HN
              generalize (PK m).map (·.k) = ks at *
              generalize (PK m).map (·.q) = zs at *
              generalize (XW.getD m wtv0).k = xk at *
              generalize (XW.getD m wtv0).p = xp at *
              generalize (XW.getD m wtv0).q = xq at *
              obtain ⟨V2, hV2⟩ : ∃ V, V = wr.alloc (.cells #[.string xk, .int .i64 xp, .int .i64 xq] 83) := ⟨_, rfl⟩
              have hBN : wr.heap.size < V2.heap.size := by rw [hV2]; simp
              have B2 : Below wr.heap.size wr V2 := by rw [hV2]; exact (Below.refl _ _).alloc (Nat.le_refl _) _
              have BV0 : BAt V2 wr.heap.size [.string xk, .int .i64 xp, .int .i64 xq] := by rw [hV2]; exact BAt.new wr #[.string xk, .int .i64 xp, .int .i64 xq] _
              have OKV := hidM (own_below TK0 B2)
              have OZV := hidM TZ0
              have OZ2 := hidM (own_below TZ0 B2)
              have OKR := hidM TK0
              have BB := hbi.trans (B2.mono hbi.size)
              have zO := hbi.size
              clear TK0 TZ0 B2 hbi hbiw
              go_upto_region 7 with fail
              rw [← hV2]
              clear hV2 c0 c1 c2
              refine wp_region_held_drew (S := fun W => BAt W wr.heap.size [.string xk, .int .i64 xp, .int .i64 xq]) (by kernel_rfl) (BV0) (fun h0 => ?_)
              have kd : V2.drew.ownsRow O.heap.size 9 1 (.slice ka N kc) N (scells ks) := OKV.out
              have zd : V2.drew.ownsRow O.heap.size 3 1 (.slice za N zc) N (icells zs) := OZ2.out
              have bd : Below O.heap.size O V2.drew := BB.drew
              have td : BAt V2.drew wr.heap.size [.string xk, .int .i64 xp, .int .i64 xq] := BV0
              refine wpAnyH_take (i := 0) (v := ?_) rfl (by kernel_rfl) (by kernel_rfl) (by kernel_rfl) (fun _ _ _ h => h) (Or.inl ⟨by rfl, fun W hW => ?_⟩) h0 ?_
              rotate_left
              · have q0 := hW.1 0 _ rfl
                have q2 := hW.1 2 _ rfl
                clear hW
                go_simp
                try with_reducible rfl
              simp only [Act.put, List.getElem_toArray, List.getElem_cons_zero, List.getElem_cons_succ, List.setIfInBounds_toArray, List.set_cons_zero, List.set_cons_succ]
              refine wpAnyH_take (i := 1) (v := ?_) rfl (by kernel_rfl) (by kernel_rfl) (by kernel_rfl) (fun _ _ _ h => h) (Or.inl ⟨by rfl, fun W hW => ?_⟩) h0 ?_
              rotate_left
              · have q0 := hW.1 0 _ rfl
                have q2 := hW.1 2 _ rfl
                clear hW
                go_simp
                try with_reducible rfl
              simp only [Act.put, List.getElem_toArray, List.getElem_cons_zero, List.getElem_cons_succ, List.setIfInBounds_toArray, List.set_cons_zero, List.set_cons_succ]
              refine wpAnyH_take (i := 2) (v := ?_) rfl (by kernel_rfl) (by kernel_rfl) (by kernel_rfl) (fun _ _ _ h => h) (Or.inl ⟨by rfl, fun W hW => ?_⟩) h0 ?_
              rotate_left
              · have q0 := hW.1 0 _ rfl
                have q2 := hW.1 2 _ rfl
                clear hW
                go_simp
                try with_reducible rfl
              simp only [Act.put, List.getElem_toArray, List.getElem_cons_zero, List.getElem_cons_succ, List.setIfInBounds_toArray, List.set_cons_zero, List.set_cons_succ]
              refine wpAnyH_take (i := 5) (v := ?_) rfl (by kernel_rfl) (by kernel_rfl) (by kernel_rfl) (fun _ _ _ h => h) (Or.inl ⟨by rfl, fun W hW => ?_⟩) h0 ?_
              rotate_left
              · have q0 := hW.1 0 _ rfl
                have q2 := hW.1 2 _ rfl
                clear hW
                go_simp
                try with_reducible rfl
              simp only [Act.put, List.getElem_toArray, List.getElem_cons_zero, List.getElem_cons_succ, List.setIfInBounds_toArray, List.set_cons_zero, List.set_cons_succ]
              refine wpAnyH_take (i := 6) (v := ?_) rfl (by kernel_rfl) (by kernel_rfl) (by kernel_rfl) (fun _ _ _ h => h) (Or.inl ⟨by rfl, fun W hW => ?_⟩) h0 ?_
              rotate_left
              · have q0 := hW.1 0 _ rfl
                have q2 := hW.1 2 _ rfl
                clear hW
                go_simp
                try with_reducible rfl
              simp only [Act.put, List.getElem_toArray, List.getElem_cons_zero, List.getElem_cons_succ, List.setIfInBounds_toArray, List.set_cons_zero, List.set_cons_succ]
              refine wpAnyH_take (i := 7) (v := ?_) rfl (by kernel_rfl) (by kernel_rfl) (by kernel_rfl) (fun _ _ _ h => h) (Or.inl ⟨by rfl, fun W hW => ?_⟩) h0 ?_
              rotate_left
              · have q0 := hW.1 0 _ rfl
                have q2 := hW.1 2 _ rfl
                clear hW
                go_simp
                try with_reducible rfl
              simp only [Act.put, List.getElem_toArray, List.getElem_cons_zero, List.getElem_cons_succ, List.setIfInBounds_toArray, List.set_cons_zero, List.set_cons_succ]
              refine wpAnyH_ready (rs := [3, 8]) (by kernel_rfl) (by simp) (AllReadyH.cons rfl (fun K hK => ?_) (AllReadyH.cons rfl (fun K hK => ?_) AllReadyH.nil))
              · have kA := kd.alloc (.cells #[.string xk] 9)
                have zA := zd.alloc (.cells #[.string xk] 9)
                have bA := bd.alloc bd.size (.cells #[.string xk] 9)
                have tA := td.alloc (.cells #[.string xk] 9)
                have sA := BAt.new V2.drew #[.string xk] 9
                go_simp
                refine hK.out _ _ tA (fun h1 => ?_)
                clear hK K h1
                refine wpAnyH_ready (rs := [4, 8]) (by kernel_rfl) (by simp) (AllReadyH.cons rfl (fun K hK => ?_) (AllReadyH.cons rfl (fun K hK => ?_) AllReadyH.nil))
                · rw [if_pos (by rfl)]
                  refine wp_append_own _ (.tmp 24) (.tmp 27) 33 rfl O.heap.size 9 is (.string ⟨#[]⟩) 1 16 Tryz.underlying33 his hzs0 hzs1 hzs2 rfl (by decide) (.slice ka N kc) N (scells ks) rfl kA ⟨V2.drew.heap.size, 0, none⟩ 1 1 [.string xk] rfl rfl (fun j u hj => by rw [Addr.add_lit, Nat.zero_add]; exact sA.1 j u hj) (by intro u hu; simp at hu; subst hu; rfl) (by unfold maxLen; omega) (by omega) (bA).size ?_
                  intro v1 w1 o1 g1 _
                  have zA1 := own_beside zA kA t_str_int.symm g1
                  have tA1 := bat_beside tA kA g1 (fun b hb => by have := (OKR.out.lt b hb).2; omega)
                  have bA1 := bA.grown g1 bA.size (fun j hj => (kA.lt j hj).1)
                  refine hK.out _ _ tA1 (fun h1 => ?_)
                  clear hK K h1
                  refine wpAnyH_ready (rs := [8]) (by kernel_rfl) (by simp) (AllReadyH.cons rfl (fun K hK => ?_) AllReadyH.nil)
                  have kA2 := o1.alloc (.cells #[.int .i64 xq] 3)
                  have zA2 := zA1.alloc (.cells #[.int .i64 xq] 3)
                  have bA2 := bA1.alloc bA1.size (.cells #[.int .i64 xq] 3)
                  have tA2 := tA1.alloc (.cells #[.int .i64 xq] 3)
                  have sZ := BAt.new w1 #[.int .i64 xq] 3
                  go_simp
                  refine hK.out _ _ tA2 (fun h1 => ?_)
                  clear hK K h1
                  refine wpAnyH_ready (rs := [9]) (by kernel_rfl) (by simp) (AllReadyH.cons rfl (fun K hK => ?_) AllReadyH.nil)
                  rw [if_pos (by rfl)]
                  refine wp_append_own _ (.tmp 29) (.tmp 32) 44 rfl O.heap.size 3 ii (.int .i64 0) 1 8 Tryz.underlying44 hii hzi0 hzi1 hzi2 rfl (by decide) (.slice za N zc) N (icells zs) rfl zA2 ⟨w1.heap.size, 0, none⟩ 1 1 [.int .i64 xq] rfl rfl (fun j u hj => by rw [Addr.add_lit, Nat.zero_add]; exact sZ.1 j u hj) (by intro u hu; simp at hu; subst hu; rfl) (by unfold maxLen; omega) (by omega) (bA2).size ?_
                  intro v2 w5 o2 g2 _
                  refine hK.out _ _ (bat_beside tA2 zA2 g2 (fun b hb => by have := ((OZV.out).lt b hb).2; omega)) (fun h6 => ?_)
                  clear hK K
                  have HF1 : Hid (w5.ownsRow O.heap.size 9 1 v1 (N + 1) (scells ks ++ [.string xk])) := own_beside kA2 zA2 t_str_int g2
                  have HF2 : Hid (w5.ownsRow O.heap.size 3 1 v2 (N + 1) (icells zs ++ [.int .i64 xq])) := o2
                  have HF3 : Hid (Below O.heap.size O w5) := (bA2).grown g2 (bA2).size (fun j hj => ((zA2).lt j hj).1)
                  refine wpAnyH_take (i := 10) (v := ?_) rfl (by kernel_rfl) (by kernel_rfl) (by kernel_rfl) (fun _ _ _ h => h) (Or.inl ⟨by rfl, fun W hW => ?_⟩) h6 ?_
                  rotate_left
                  · have q0 := hW.1 0 _ rfl
                    have q2 := hW.1 2 _ rfl
                    clear hW
                    go_simp
                    try with_reducible rfl
                  simp only [Act.put, List.getElem_toArray, List.getElem_cons_zero, List.getElem_cons_succ, List.setIfInBounds_toArray, List.set_cons_zero, List.set_cons_succ]
                  refine wpAnyH_take (i := 11) (v := ?_) rfl (by kernel_rfl) (by kernel_rfl) (by kernel_rfl) (fun _ _ _ h => h) (Or.inl ⟨by rfl, fun W hW => ?_⟩) h6 ?_
                  rotate_left
                  · have q0 := hW.1 0 _ rfl
                    have q2 := hW.1 2 _ rfl
                    clear hW
                    go_simp
                    try with_reducible rfl
                  simp only [Act.put, List.getElem_toArray, List.getElem_cons_zero, List.getElem_cons_succ, List.setIfInBounds_toArray, List.set_cons_zero, List.set_cons_succ]
                  refine wpAnyH_done (by kernel_rfl) ?_ _
                  obtain ⟨ka', kc', rfl⟩ : ∃ a c, v1 = .slice a (N + 1) c := by
                    rcases own_shape HF1.out with ⟨h, _⟩ | ⟨_, g, c, h⟩
                    · omega
                    · exact ⟨_, _, h⟩
                  obtain ⟨za', zc', rfl⟩ : ∃ a c, v2 = .slice a (N + 1) c := by
                    rcases own_shape HF2.out with ⟨h, _⟩ | ⟨_, g, c, h⟩
                    · omega
                    · exact ⟨_, _, h⟩
                  have HTT := hidM (HT2.out w5 ka' kc' za' zc' HF1.out HF2.out)
                  clear HF1 HF2 o2 g2 h6
                  clear HT2
                  go_wp2_with fail
                  go_roundw
                  case rel => exact ⟨m + 1, _, _, _, _, N + 1, by omega, by go_num, by omega, rfl, rfl, HN2, HTT, HF3⟩
                  case measure => simp [intOf]; omega
                · have kB := kA.alloc (.cells #[.int .i64 xq] 3)
                  have zB := zA.alloc (.cells #[.int .i64 xq] 3)
                  have bB := bA.alloc bA.size (.cells #[.int .i64 xq] 3)
                  have tB := tA.alloc (.cells #[.int .i64 xq] 3)
                  have sK := sA.alloc (.cells #[.int .i64 xq] 3)
                  have sZ : BAt ((V2.drew.alloc (.cells #[.string xk] 9)).alloc (.cells #[.int .i64 xq] 3)) (V2.heap.size + 1) [.int .i64 xq] := by
                    have := BAt.new (V2.drew.alloc (.cells #[.string xk] 9)) #[.int .i64 xq] 3
                    rw [World.size_alloc] at this
                    exact this
                  go_simp
                  refine hK.out _ _ tB (fun h1 => ?_)
                  clear hK K h1
                  refine wpAnyH_ready (rs := [4]) (by kernel_rfl) (by simp) (AllReadyH.cons rfl (fun K hK => ?_) AllReadyH.nil)
                  rw [if_pos (by rfl)]
                  refine wp_append_own _ (.tmp 24) (.tmp 27) 33 rfl O.heap.size 9 is (.string ⟨#[]⟩) 1 16 Tryz.underlying33 his hzs0 hzs1 hzs2 rfl (by decide) (.slice ka N kc) N (scells ks) rfl kB ⟨V2.drew.heap.size, 0, none⟩ 1 1 [.string xk] rfl rfl (fun j u hj => by rw [Addr.add_lit, Nat.zero_add]; exact sK.1 j u hj) (by intro u hu; simp at hu; subst hu; rfl) (by unfold maxLen; omega) (by omega) (bB).size ?_
                  intro v1 w1 o1 g1 _
                  have zB1 := own_beside zB kB t_str_int.symm g1
                  have tB1 := bat_beside tB kB g1 (fun b hb => by have := (OKR.out.lt b hb).2; omega)
                  have sZ1 := bat_beside sZ kB g1 (fun b hb => by have := (OKR.out.lt b hb).2; omega)
                  have bB1 := bB.grown g1 bB.size (fun j hj => (kB.lt j hj).1)
                  refine hK.out _ _ tB1 (fun h1 => ?_)
                  clear hK K h1
                  refine wpAnyH_ready (rs := [9]) (by kernel_rfl) (by simp) (AllReadyH.cons rfl (fun K hK => ?_) AllReadyH.nil)
                  rw [if_pos (by rfl)]
                  refine wp_append_own _ (.tmp 29) (.tmp 32) 44 rfl O.heap.size 3 ii (.int .i64 0) 1 8 Tryz.underlying44 hii hzi0 hzi1 hzi2 rfl (by decide) (.slice za N zc) N (icells zs) rfl zB1 ⟨(V2.heap.size + 1), 0, none⟩ 1 1 [.int .i64 xq] rfl rfl (fun j u hj => by rw [Addr.add_lit, Nat.zero_add]; exact sZ1.1 j u hj) (by intro u hu; simp at hu; subst hu; rfl) (by unfold maxLen; omega) (by omega) (bB1).size ?_
                  intro v2 w5 o2 g2 _
                  refine hK.out _ _ (bat_beside tB1 zB1 g2 (fun b hb => by have := ((OZV.out).lt b hb).2; omega)) (fun h6 => ?_)
                  clear hK K
                  have HF1 : Hid (w5.ownsRow O.heap.size 9 1 v1 (N + 1) (scells ks ++ [.string xk])) := own_beside o1 zB1 t_str_int g2
                  have HF2 : Hid (w5.ownsRow O.heap.size 3 1 v2 (N + 1) (icells zs ++ [.int .i64 xq])) := o2
                  have HF3 : Hid (Below O.heap.size O w5) := (bB1).grown g2 (bB1).size (fun j hj => ((zB1).lt j hj).1)
                  refine wpAnyH_take (i := 10) (v := ?_) rfl (by kernel_rfl) (by kernel_rfl) (by kernel_rfl) (fun _ _ _ h => h) (Or.inl ⟨by rfl, fun W hW => ?_⟩) h6 ?_
                  rotate_left
                  · have q0 := hW.1 0 _ rfl
                    have q2 := hW.1 2 _ rfl
                    clear hW
                    go_simp
                    try with_reducible rfl
                  simp only [Act.put, List.getElem_toArray, List.getElem_cons_zero, List.getElem_cons_succ, List.setIfInBounds_toArray, List.set_cons_zero, List.set_cons_succ]
                  refine wpAnyH_take (i := 11) (v := ?_) rfl (by kernel_rfl) (by kernel_rfl) (by kernel_rfl) (fun _ _ _ h => h) (Or.inl ⟨by rfl, fun W hW => ?_⟩) h6 ?_
                  rotate_left
                  · have q0 := hW.1 0 _ rfl
                    have q2 := hW.1 2 _ rfl
                    clear hW
                    go_simp
                    try with_reducible rfl
                  simp only [Act.put, List.getElem_toArray, List.getElem_cons_zero, List.getElem_cons_succ, List.setIfInBounds_toArray, List.set_cons_zero, List.set_cons_succ]
                  refine wpAnyH_done (by kernel_rfl) ?_ _
                  obtain ⟨ka', kc', rfl⟩ : ∃ a c, v1 = .slice a (N + 1) c := by
                    rcases own_shape HF1.out with ⟨h, _⟩ | ⟨_, g, c, h⟩
                    · omega
                    · exact ⟨_, _, h⟩
                  obtain ⟨za', zc', rfl⟩ : ∃ a c, v2 = .slice a (N + 1) c := by
                    rcases own_shape HF2.out with ⟨h, _⟩ | ⟨_, g, c, h⟩
                    · omega
                    · exact ⟨_, _, h⟩
                  have HTT := hidM (HT2.out w5 ka' kc' za' zc' HF1.out HF2.out)
                  clear HF1 HF2 o2 g2 h6
                  clear HT2
                  go_wp2_with fail
                  go_roundw
                  case rel => exact ⟨m + 1, _, _, _, _, N + 1, by omega, by go_num, by omega, rfl, rfl, HN2, HTT, HF3⟩
                  case measure => simp [intOf]; omega
              · have kA := kd.alloc (.cells #[.int .i64 xq] 3)
                have zA := zd.alloc (.cells #[.int .i64 xq] 3)
                have bA := bd.alloc bd.size (.cells #[.int .i64 xq] 3)
                have tA := td.alloc (.cells #[.int .i64 xq] 3)
                have sA := BAt.new V2.drew #[.int .i64 xq] 3
                go_simp
                refine hK.out _ _ tA (fun h1 => ?_)
                clear hK K h1
                refine wpAnyH_ready (rs := [3]) (by kernel_rfl) (by simp) (AllReadyH.cons rfl (fun K hK => ?_) AllReadyH.nil)
                have kB := kA.alloc (.cells #[.string xk] 9)
                have zB := zA.alloc (.cells #[.string xk] 9)
                have bB := bA.alloc bA.size (.cells #[.string xk] 9)
                have tB := tA.alloc (.cells #[.string xk] 9)
                have sZ := sA.alloc (.cells #[.string xk] 9)
                have sK : BAt ((V2.drew.alloc (.cells #[.int .i64 xq] 3)).alloc (.cells #[.string xk] 9)) (V2.heap.size + 1) [.string xk] := by
                  have := BAt.new (V2.drew.alloc (.cells #[.int .i64 xq] 3)) #[.string xk] 9
                  rw [World.size_alloc] at this
                  exact this
                go_simp
                refine hK.out _ _ tB (fun h1 => ?_)
                clear hK K h1
                refine wpAnyH_ready (rs := [4]) (by kernel_rfl) (by simp) (AllReadyH.cons rfl (fun K hK => ?_) AllReadyH.nil)
                rw [if_pos (by rfl)]
                refine wp_append_own _ (.tmp 24) (.tmp 27) 33 rfl O.heap.size 9 is (.string ⟨#[]⟩) 1 16 Tryz.underlying33 his hzs0 hzs1 hzs2 rfl (by decide) (.slice ka N kc) N (scells ks) rfl kB ⟨(V2.heap.size + 1), 0, none⟩ 1 1 [.string xk] rfl rfl (fun j u hj => by rw [Addr.add_lit, Nat.zero_add]; exact sK.1 j u hj) (by intro u hu; simp at hu; subst hu; rfl) (by unfold maxLen; omega) (by omega) (bB).size ?_
                intro v1 w1 o1 g1 _
                have zB1 := own_beside zB kB t_str_int.symm g1
                have tB1 := bat_beside tB kB g1 (fun b hb => by have := (OKR.out.lt b hb).2; omega)
                have sZ1 := bat_beside sZ kB g1 (fun b hb => by have h1 := (OKR.out.lt b hb).2; show b ≠ V2.heap.size; omega)
                have bB1 := bB.grown g1 bB.size (fun j hj => (kB.lt j hj).1)
                refine hK.out _ _ tB1 (fun h1 => ?_)
                clear hK K h1
                refine wpAnyH_ready (rs := [9]) (by kernel_rfl) (by simp) (AllReadyH.cons rfl (fun K hK => ?_) AllReadyH.nil)
                rw [if_pos (by rfl)]
                refine wp_append_own _ (.tmp 29) (.tmp 32) 44 rfl O.heap.size 3 ii (.int .i64 0) 1 8 Tryz.underlying44 hii hzi0 hzi1 hzi2 rfl (by decide) (.slice za N zc) N (icells zs) rfl zB1 ⟨V2.drew.heap.size, 0, none⟩ 1 1 [.int .i64 xq] rfl rfl (fun j u hj => by rw [Addr.add_lit, Nat.zero_add]; exact sZ1.1 j u hj) (by intro u hu; simp at hu; subst hu; rfl) (by unfold maxLen; omega) (by omega) (bB1).size ?_
                intro v2 w5 o2 g2 _
                refine hK.out _ _ (bat_beside tB1 zB1 g2 (fun b hb => by have := ((OZV.out).lt b hb).2; omega)) (fun h6 => ?_)
                clear hK K
                have HF1 : Hid (w5.ownsRow O.heap.size 9 1 v1 (N + 1) (scells ks ++ [.string xk])) := own_beside o1 zB1 t_str_int g2
                have HF2 : Hid (w5.ownsRow O.heap.size 3 1 v2 (N + 1) (icells zs ++ [.int .i64 xq])) := o2
                have HF3 : Hid (Below O.heap.size O w5) := (bB1).grown g2 (bB1).size (fun j hj => ((zB1).lt j hj).1)
                refine wpAnyH_take (i := 10) (v := ?_) rfl (by kernel_rfl) (by kernel_rfl) (by kernel_rfl) (fun _ _ _ h => h) (Or.inl ⟨by rfl, fun W hW => ?_⟩) h6 ?_
                rotate_left
                · have q0 := hW.1 0 _ rfl
                  have q2 := hW.1 2 _ rfl
                  clear hW
                  go_simp
                  try with_reducible rfl
                simp only [Act.put, List.getElem_toArray, List.getElem_cons_zero, List.getElem_cons_succ, List.setIfInBounds_toArray, List.set_cons_zero, List.set_cons_succ]
                refine wpAnyH_take (i := 11) (v := ?_) rfl (by kernel_rfl) (by kernel_rfl) (by kernel_rfl) (fun _ _ _ h => h) (Or.inl ⟨by rfl, fun W hW => ?_⟩) h6 ?_
                rotate_left
                · have q0 := hW.1 0 _ rfl
                  have q2 := hW.1 2 _ rfl
                  clear hW
                  go_simp
                  try with_reducible rfl
                simp only [Act.put, List.getElem_toArray, List.getElem_cons_zero, List.getElem_cons_succ, List.setIfInBounds_toArray, List.set_cons_zero, List.set_cons_succ]
                refine wpAnyH_done (by kernel_rfl) ?_ _
                obtain ⟨ka', kc', rfl⟩ : ∃ a c, v1 = .slice a (N + 1) c := by
                  rcases own_shape HF1.out with ⟨h, _⟩ | ⟨_, g, c, h⟩
                  · omega
                  · exact ⟨_, _, h⟩
                obtain ⟨za', zc', rfl⟩ : ∃ a c, v2 = .slice a (N + 1) c := by
                  rcases own_shape HF2.out with ⟨h, _⟩ | ⟨_, g, c, h⟩
                  · omega
                  · exact ⟨_, _, h⟩
                have HTT := hidM (HT2.out w5 ka' kc' za' zc' HF1.out HF2.out)
                clear HF1 HF2 o2 g2 h6
                clear HT2
                go_wp2_with fail
                go_roundw
                case rel => exact ⟨m + 1, _, _, _, _, N + 1, by omega, by go_num, by omega, rfl, rfl, HN2, HTT, HF3⟩
                case measure => simp [intOf]; omega
          · have hmi : ¬ (m : Int) < XW.length := by omega
            have hme : m = XW.length := by omega
            have HN3 : Hid (N = (waitL (si.take (k + 1))).length) := hidM (by rw [← HPL.out, ← hme]; exact HN.out)
            have HT3 : Hid (TwoR wr O.heap.size (.slice ka N kc) (.slice za N zc) ((waitL (si.take (k + 1))).map (·.k)) ((waitL (si.take (k + 1))).map (·.q))) := hidM (by rw [← HPL.out, ← hme]; exact HT.out)
            clear HN HT HPL HPS HPB hme
            go_wp2_with fail
            go_roundw
            case rel => exact ⟨k + 1, _, _, _, _, N, by omega, by go_num, hN, rfl, rfl, HN3, HT3, hbi⟩
            case measure => simp [intOf]; omega
    · have hki : ¬ (k : Int) < si.length := by omega
      have hke : k = si.length := by omega
      have HN4 : Hid (N = (waitL si).length) := hidM (by have := HN.out; rwa [hke, List.take_length] at this)
      have HT4 : Hid (TwoR wr O.heap.size (.slice ka N kc) (.slice za N zc) ((waitL si).map (·.k)) ((waitL si).map (·.q))) := hidM (by have := HT.out; rwa [hke, List.take_length] at this)
      clear HN HT hke HWT
      have hN2 : N + le.length ≤ 200 := by have := HN4.out; omega
      have d5 := (AO.out.below hbO).1 5 _ rfl
      have HM0 : Hid (wr.ownsRow O.heap.size 9 1 (.slice ka N kc) N (scells ((waitL si).map (·.k) ++ (le.take 0).map (·.k)))) := hidM (by
        have := HT4.out.k
        rw [List.length_map, ← HN4.out] at this
        rw [List.take_zero, List.map_nil, List.append_nil]
        exact this)
      have HZ0 : Hid (wr.ownsRow O.heap.size 3 1 (.slice za N zc) N (icells ((waitL si).map (·.q)))) := hidM (by
        have := HT4.out.z
        rw [List.length_map, ← HN4.out] at this
        exact this)
      have HEnd : Hid (∀ (W : World) ka' kc', Below O.heap.size O W → W.ownsRow O.heap.size 9 1 (.slice ka' (N + le.length) kc') (N + le.length) (scells ((waitL si).map (·.k) ++ (le.take le.length).map (·.k))) → W.ownsRow O.heap.size 3 1 (.slice za N zc) N (icells ((waitL si).map (·.q))) → KasR w si le (.returned (.tuple #[.slice ka' (N + le.length) kc', .slice za N zc])) W) := fun W ka' kc' hb h1 h2 => by
        have hl : (keysL si le).length = N + le.length := by unfold keysL; rw [List.length_append, List.length_map, List.length_map, HN4.out]
        refine ⟨ka', kc', za, zc, by rw [hl, ← HN4.out], ⟨?_, ?_⟩, bO.trans (hb.mono bO.size)⟩
        · rw [hl]
          unfold keysL
          rw [List.take_length] at h1
          exact own_wide1 h1 (by have := HOz.out; omega)
        · rw [List.length_map, ← HN4.out]
          exact own_wide1 h2 (by have := HOz.out; omega)
      clear HT4 HN4
      go_wp2_with fail
      go_loopw [2, 39] (fun kv i wr => ∃ (m : Nat) (ka : Option Addr) (kc : Nat), m ≤ le.length ∧ i = .int .i64 m ∧ kv = .slice ka (N + m) kc ∧ Hid (wr.ownsRow O.heap.size 9 1 (.slice ka (N + m) kc) (N + m) (scells ((waitL si).map (·.k) ++ (le.take m).map (·.k)))) ∧ Hid (wr.ownsRow O.heap.size 3 1 (.slice za N zc) N (icells ((waitL si).map (·.q)))) ∧ Below O.heap.size O wr) (fun _ i _ => le.length - (intOf i).toNat)
      case atStart => exact ⟨0, _, _, Nat.zero_le _, rfl, rfl, HM0, HZ0, hbO⟩
      case round =>
        clear HM0 HZ0 d5 hbel hbO
        obtain ⟨m, ka, kc, hm, rfl, rfl, HM, HZ, hbO⟩ := hrel
        have hbel : Below w.heap.size w wr := bO.trans (hbO.mono bO.size)
        by_cases hmt : m < le.length
        · have hmi : (m : Int) < le.length := by omega
          rcases HL.out with ⟨h0, _⟩ | ⟨_, g, off, cap, hqe, hg, hcq⟩
          · rw [h0] at hmt; exact absurd hmt (Nat.not_lt_zero _)
          · injection hqe with e1 e2 e3
            subst e1
            obtain ⟨c0, c1, c2, c3⟩ := (hcq m hmt).below hbel hg
            have HM2 : Hid (∀ (W : World) v, W.ownsRow O.heap.size 9 1 v (N + m + 1) (scells ((waitL si).map (·.k) ++ (le.take m).map (·.k)) ++ [.string (le.getD m lsv0).k]) → W.ownsRow O.heap.size 9 1 v (N + (m + 1)) (scells ((waitL si).map (·.k) ++ (le.take (m + 1)).map (·.k)))) := fun W v h => by
              rw [ltake_succ le hmt, List.map_append, ← List.append_assoc, scells_append]
              exact h
            clear hcq e2 e3
            generalize (waitL si).map (·.k) ++ (le.take m).map (·.k) = ks at *
            generalize (waitL si).map (·.q) = zs at *
            generalize (le.getD m lsv0).k = xk at *
            generalize (le.getD m lsv0).s = xs at *
            generalize (le.getD m lsv0).p = xp at *
            generalize (le.getD m lsv0).u = xu at *
            obtain ⟨V2, hV2⟩ : ∃ V, V = wr.alloc (.cells #[.string xk, .string xs, .int .i64 xp, .int .i64 xu] 51) := ⟨_, rfl⟩
            have B2 : Below wr.heap.size wr V2 := by rw [hV2]; exact (Below.refl _ _).alloc (Nat.le_refl _) _
            have BV0 : BAt V2 wr.heap.size [.string xk, .string xs, .int .i64 xp, .int .i64 xu] := by rw [hV2]; exact BAt.new wr #[.string xk, .string xs, .int .i64 xp, .int .i64 xu] _
            have OKV := own_below HM.out B2
            have OZV := hidM (own_below HZ.out B2)
            have BB := hbO.trans (B2.mono hbO.size)
            have v0 := BV0.1 0 _ rfl
            clear HM HZ B2 BV0
            go_upto_region 13 with fail
            rw [← hV2]
            clear hV2 c0 c1 c2 c3
            go_wp2_with (at_builtin; refine wpList_append_newAt _ rfl _ _ 33 rfl O.heap.size 9 (.string ⟨#[]⟩) 16 Tryz.underlying33 Tryz.infoStr18 rfl _ _ _ rfl OKV #[.string xk] 1 rfl rfl (by intro u hu; simp at hu; subst hu; rfl) (by omega) (by unfold maxLen; omega) (by exact BB.size) ?_)
            intro v1 w1 o1 g1 _
            have B1 := BB.grown g1 BB.size (fun j hj => (OKV.lt j hj).1)
            have HZ1 := hidM (own_beside OZV.out OKV t_str_int.symm g1)
            obtain ⟨ka', kc', rfl⟩ : ∃ a c, v1 = .slice a (N + m + 1) c := by
              rcases own_shape o1 with ⟨h, _⟩ | ⟨_, g, c, h⟩
              · omega
              · exact ⟨_, _, h⟩
            have HM3 := hidM (HM2.out w1 _ o1)
            clear o1 g1 OKV OZV BB HM2 v0
            go_wp2_with fail
            go_roundw
            case rel => exact ⟨m + 1, ka', kc', by omega, by go_num, rfl, HM3, HZ1, B1⟩
            case measure => simp [intOf]; omega
        · have hmi : ¬ (m : Int) < le.length := by omega
          have hme : m = le.length := by omega
          subst hme
          have HE := hidM (HEnd.out wr ka kc hbO HM.out HZ.out)
          clear HM HZ HEnd
          go_wp2_with fail
          go_ret2
          exact HE.out
end Go.Proofs.YtcjblhiihgdljaaGreat
