/- The laws' marks on sites, and on queues, that a call owns. -/
import Derived.Test.YtcjblhiihgdljaaRows
import Derived.Test.YtcjblhiihgdljaaSitOwn
import Derived.Test.YtcjblhiihgdljaaSitEq
import Derived.Test.YtcjblhiihgdljaaSumZ
import Derived.Test.YtcjblhiihgdljaaWtMark
import Derived.Test.YtcjblhiihgdljaaLsMark
namespace Go.Proofs.Ytcjblhiihgdljaa
open Go.RowKit
set_option linter.unusedVariables false

theorem set_same' {α : Type} {l : List α} {i : Nat} {v : α} (h : l[i]? = some v) : l.set i v = l := by
  refine List.ext_getElem? fun j => ?_
  rw [List.getElem?_set]
  split
  · rename_i e
    subst e
    rw [if_pos (List.getElem?_eq_some_iff.1 h).1, h]
  · rfl
theorem si_set2 (cs : List SiV) (k : Nat) (hk : k < cs.length) (M : ByteArray) (z : Int) : ((sicells cs).set (k * 3) (.string M)).set (k * 3 + 1) (.int .i64 z) = sicells (cs.set k ⟨M, z, (cs.getD k siv0).q⟩) := by
  rw [← setSi_set cs k hk]
  unfold setSi
  dsimp only
  rw [set_same' (i := k * 3 + 2)]
  rw [List.getElem?_set_ne (by omega), List.getElem?_set_ne (by omega)]
  exact (sicells_at cs k hk).2.2
theorem si_set1 (cs : List SiV) (k : Nat) (hk : k < cs.length) (z : Int) : (sicells cs).set (k * 3 + 1) (.int .i64 z) = sicells (cs.set k ⟨(cs.getD k siv0).n, z, (cs.getD k siv0).q⟩) := by
  rw [← si_set2 cs k hk, set_same' (i := k * 3)]
  exact (sicells_at cs k hk).1
theorem si_set3 (cs : List SiV) (k : Nat) (hk : k < cs.length) (q : Value) : (sicells cs).set (k * 3 + 2) q = sicells (cs.set k ⟨(cs.getD k siv0).n, (cs.getD k siv0).r, q⟩) := by
  rw [← setSi_set cs k hk]
  unfold setSi
  dsimp only
  rw [set_same' (i := k * 3) (sicells_at cs k hk).1, set_same' (i := k * 3 + 1) (sicells_at cs k hk).2.1]
/-- One site's cells that tell its name and its time have turned. -/
theorem SitPart.put {w : World} {base top : Nat} {cs : List SiV} {l : List SiteV} {k : Nat} {M : ByteArray} {z : Int} (h : SitPart w base top cs l) (hk : k < l.length) : SitPart w base top (cs.set k ⟨M, z, (cs.getD k siv0).q⟩) (l.set k ⟨M, z, (l.getD k sitv0).w⟩) := by
  obtain ⟨h1, h2, h3⟩ := h
  have hkc : k < cs.length := by omega
  have hq : ∀ i, i < cs.length → ((cs.set k ⟨M, z, (cs.getD k siv0).q⟩).getD i siv0).q = (cs.getD i siv0).q := fun i hi => by
    rw [si_getD_set cs k i hi]
    split
    · rename_i e; subst e; rfl
    · rfl
  refine ⟨by simp [h1], fun i hi => ?_, fun a b ha hb hne => ?_⟩
  · rw [List.length_set] at hi
    rw [si_getD_set cs k i (by omega), sit_getD_set l k i hi]
    split
    · rename_i e
      subst e
      exact ⟨rfl, rfl, (h2 k hi).2.2⟩
    · exact h2 i hi
  · rw [List.length_set] at ha hb
    rw [hq a ha, hq b hb]
    exact h3 a b ha hb hne
theorem SitX.put {w : World} {base top g cap : Nat} {cs : List SiV} {l : List SiteV} {k : Nat} {M : ByteArray} {z : Int} (h : SitX w base top (.slice (some ⟨g, 0, none⟩) l.length cap) cs l) (hz : top ≤ w.heap.size) (hk : k < l.length) :
    SitX ((w.setCell ⟨g, k * 3, none⟩ (.string M)).setCell ⟨g, k * 3 + 1, none⟩ (.int .i64 z)) base top (.slice (some ⟨g, 0, none⟩) l.length cap) (cs.set k ⟨M, z, (cs.getD k siv0).q⟩) (l.set k ⟨M, z, (l.getD k sitv0).w⟩) ∧ w.grownBy ((w.setCell ⟨g, k * 3, none⟩ (.string M)).setCell ⟨g, k * 3 + 1, none⟩ (.int .i64 z)) (some g) := by
  obtain ⟨S1, G1⟩ := h.row.stored (k * 3) (.string M)
  obtain ⟨S2, G2⟩ := S1.stored (k * 3 + 1) (.int .i64 z)
  have GG : w.grownBy _ (some g) := grow_trans G1 G2
  refine ⟨h.cells hz GG ?_ (h.part.put hk), GG⟩
  rw [List.length_set, ← si_set2 cs k (by rw [h.part.1]; exact hk)]
  exact S2
/-- No row of leases has turned. -/
def LKeep (w w' : World) : Prop := ∀ (b : Nat) (c : Array Value) (f : Nat × Nat), w.heap[b]? = some (Obj.cells c 70 f) → w'.heap[b]? = w.heap[b]?
theorem LKeep.refl (w : World) : LKeep w w := fun _ _ _ _ => rfl
theorem LKeep.trans {a b c : World} (h : LKeep a b) (k : LKeep b c) : LKeep a c := fun i x f hx => (k i x f ((h i x f hx).trans hx)).trans (h i x f hx)
theorem LKeep.of_below {a b : World} (h : Below a.heap.size a b) : LKeep a b := fun i x f hx => h.block i (Array.getElem?_eq_some_iff.1 hx).1
theorem LKeep.of_grown {a b : World} {B : Nat} {e : TypeId} {size n : Nat} {v : Value} {xs : List Value} (h : a.ownsRow B e size v n xs) (hg : a.grownBy b v.ownBlock) (ht : 70 ≠ e) : LKeep a b := fun i x f hx => hg.block i (Array.getElem?_eq_some_iff.1 hx).1 fun e2 => by
  obtain ⟨c, f2, h2⟩ := own_ty h e2.symm
  rw [hx] at h2
  injection h2 with h2
  injection h2 with _ h3
  exact ht h3
theorem LKeep.own {a b : World} {B n : Nat} {v : Value} {xs : List Value} (h : LKeep a b) (ho : a.ownsRow B 70 4 v n xs) : b.ownsRow B 70 4 v n xs := own_at ho fun i hi => by
  obtain ⟨c, f, h2⟩ := own_ty ho hi
  exact h i c f h2
def OnlyL (base top : Nat) (w w' : World) : Prop := Only base top w w' ∧ LKeep w w'
def kSit (k0 : Nat) (l : List SiteV) (i : Nat) : Nat := k0 + psum (fun j => 2 + 3 * (l.getD j sitv0).w.length) i
theorem kSit_succ (k0 : Nat) (l : List SiteV) (i : Nat) : kSit k0 l (i + 1) = kSit k0 l i + 2 + 3 * (l.getD i sitv0).w.length := by
  unfold kSit
  show k0 + (psum _ i + (2 + 3 * (l.getD i sitv0).w.length)) = _
  omega
theorem kSit_le (k0 : Nat) (l : List SiteV) {i j : Nat} (h : i ≤ j) : kSit k0 l i ≤ kSit k0 l j := by
  unfold kSit
  have := psum_le (fun j => 2 + 3 * (l.getD j sitv0).w.length) h
  omega
def mkSitX (k0 : Nat) (l : List SiteV) (i : Nat) : SiteV := ⟨markS (kSit k0 l i), ((kSit k0 l i + 1 : Nat) : Int), mkWtL (kSit k0 l i + 2) (l.getD i sitv0).w.length⟩
def mixSit (k0 : Nat) (l : List SiteV) (k : Nat) : List SiteV := (List.range l.length).map fun i => if i < k then mkSitX k0 l i else l.getD i sitv0
def markSit (k0 : Nat) (l : List SiteV) : List SiteV := mixSit k0 l l.length
theorem mixSit_length (k0 : Nat) (l : List SiteV) (k : Nat) : (mixSit k0 l k).length = l.length := by simp [mixSit]
theorem mixSit_at (k0 : Nat) (l : List SiteV) (k : Nat) {i : Nat} (h : i < l.length) : (mixSit k0 l k).getD i sitv0 = if i < k then mkSitX k0 l i else l.getD i sitv0 := getD_map _ _ _ _ h
theorem markSit_at (k0 : Nat) (l : List SiteV) {i : Nat} (h : i < l.length) : (markSit k0 l).getD i sitv0 = mkSitX k0 l i := by
  unfold markSit
  rw [mixSit_at k0 l _ h, if_pos h]
theorem sit_ext {l m : List SiteV} (h1 : l.length = m.length) (h2 : ∀ i, i < l.length → l.getD i sitv0 = m.getD i sitv0) : l = m := by
  refine List.ext_getElem? fun i => ?_
  by_cases hi : i < l.length
  · have := h2 i hi
    rw [List.getD_eq_getElem?_getD, List.getD_eq_getElem?_getD, List.getElem?_eq_getElem hi, List.getElem?_eq_getElem (by omega)] at this
    rw [List.getElem?_eq_getElem hi, List.getElem?_eq_getElem (by omega)]
    exact congrArg some this
  · rw [List.getElem?_eq_none (by omega), List.getElem?_eq_none (by omega)]
theorem mixSit_zero (k0 : Nat) (l : List SiteV) : mixSit k0 l 0 = l := sit_ext (mixSit_length ..) fun i hi => by
  rw [mixSit_length] at hi
  rw [mixSit_at k0 l 0 hi, if_neg (Nat.not_lt_zero _)]
theorem mixSit_set (k0 : Nat) (l : List SiteV) {k : Nat} (h : k < l.length) : (mixSit k0 l k).set k (mkSitX k0 l k) = mixSit k0 l (k + 1) := sit_ext (by rw [List.length_set, mixSit_length, mixSit_length]) fun i hi => by
  rw [List.length_set, mixSit_length] at hi
  rw [sit_getD_set _ _ _ (by rw [mixSit_length]; exact hi), mixSit_at k0 l k hi, mixSit_at k0 l (k + 1) hi]
  by_cases e : k = i
  · subst e
    rw [if_pos rfl, if_pos (by omega)]
  · rw [if_neg e]
    by_cases h2 : i < k
    · rw [if_pos h2, if_pos (by omega)]
    · rw [if_neg h2, if_neg (by omega)]
set_option maxRecDepth 100000 in
set_option maxHeartbeats 8000000 in
theorem markSits (l : List SiteV) (v : Value) (k0 base top : Nat) (w : World) (hk0 : 0 < k0) (hl : l.length ≤ 1073741824) (hK : kSit k0 l l.length ≤ 1000000000) (ht : top ≤ w.heap.size) (h : SitOwn w base top v l) :
    Calls Try.prog 36 #[v, .int .i64 (k0 : Int)] w fun e w' => e = .returned (.int .i64 ((kSit k0 l l.length : Nat) : Int)) ∧ SitOwn w' base top v (markSit k0 l) ∧ OnlyL base top w w' := by
  obtain ⟨cs, h⟩ := h
  by_cases h0 : l.length = 0
  · have hl : l = [] := List.eq_nil_of_length_eq_zero h0
    obtain ⟨ao, cap, rfl⟩ := h.slice
    subst hl
    have HI : Hid (SitOwn w base top (.slice ao 0 cap) (markSit k0 [])) := ⟨cs, h⟩
    clear h
    go_enter Try.func36, Try.ntmps36
    go_wp2
    refine wp_loop_rounds 1 ?_
    rw [rounds_succ]
    go_wp2
    go_ret
    exact ⟨rfl, HI.out, Only.refl _ _ _, LKeep.refl _⟩
  · obtain ⟨g, cap, rfl⟩ : ∃ g cap, v = .slice (some ⟨g, 0, none⟩) l.length cap := by
      rcases h.row.2 with ⟨_, h3⟩ | ⟨g, cap, cur, rfl, _⟩
      · exact absurd h3 h0
      · exact ⟨g, cap, rfl⟩
    have hgt : g < top := h.lid g rfl
    have hgb : base ≤ g := (h.row.lt g rfl).1
    have HI0 : Hid (SitOwn w base top (.slice (some ⟨g, 0, none⟩) l.length cap) (mixSit k0 l 0)) := by rw [mixSit_zero]; exact ⟨cs, h⟩
    have HKL : Hid (∀ i, i ≤ l.length → k0 ≤ kSit k0 l i ∧ kSit k0 l i ≤ 1000000000) := fun i hi => ⟨by unfold kSit; omega, Nat.le_trans (kSit_le k0 l hi) hK⟩
    clear h hK
    go_enter Try.func36, Try.ntmps36
    go_wp2
    go_loopw [1, 5] (fun a i wr => ∃ (k : Nat) (z : Int), k ≤ l.length ∧ i = .int .i64 k ∧ a = .int .i64 z ∧ 0 < z ∧ z ≤ 1000000000 ∧ Hid (z = ((kSit k0 l k : Nat) : Int)) ∧ Hid (SitOwn wr base top (.slice (some ⟨g, 0, none⟩) l.length cap) (mixSit k0 l k)) ∧ Hid (OnlyL base top w wr)) (fun _ i _ => l.length - (intOf i).toNat)
    case atStart => exact ⟨0, _, Nat.zero_le _, rfl, rfl, by omega, by have := (HKL.out 0 (Nat.zero_le _)); unfold kSit at this; simp [psum] at this; omega, rfl, HI0, Only.refl _ _ _, LKeep.refl _⟩
    case round =>
      clear HI0
      obtain ⟨k, z, hk, rfl, rfl, hz0, hz1, HZ, HI, HR⟩ := hrel
      by_cases hlt : k < l.length
      · have hki : (k : Int) < l.length := by omega
        have hzz := HZ.out
        have hks := kSit_succ k0 l k
        have hk1 := (HKL.out (k + 1) (by omega)).2
        have hz2 : z + 2 ≤ 1000000000 := by omega
        obtain ⟨cs, X⟩ := HI.out
        have hml := mixSit_length k0 l k
        have htw : top ≤ wr.heap.size := by have := HR.out.1.size; omega
        obtain ⟨M, hM⟩ : ∃ M, markS (kSit k0 l k) = M := ⟨_, rfl⟩
        have CM : Hid (∀ W, Calls Try.prog 61 #[.int .i64 z] W fun e w' => e = .returned (.string M) ∧ Below W.heap.size W w') := fun W => by
          have := markTextI z W (by omega) (by omega)
          rwa [show z.toNat = kSit k0 l k by omega, hM] at this
        have hcl : cs.length = l.length := by rw [X.part.1, hml]
        obtain ⟨q, hq⟩ : ∃ q, (cs.getD k siv0).q = q := ⟨_, rfl⟩
        have hlk : (mixSit k0 l k).getD k sitv0 = l.getD k sitv0 := by rw [mixSit_at k0 l k hlt, if_neg (Nat.lt_irrefl _)]
        have HS : Hid (∀ w1, Below wr.heap.size wr w1 →
            (w1.ownsRow base 61 3 (.slice (some ⟨g, 0, none⟩) l.length cap) l.length (sicells cs)) ∧
            (((w1.setCell ⟨g, k * 3, none⟩ (.string M)).setCell ⟨g, k * 3 + 1, none⟩ (.int .i64 (z + 1))).cell? ⟨g, k * 3 + 2, none⟩ = some q) ∧
            (((w1.setCell ⟨g, k * 3, none⟩ (.string M)).setCell ⟨g, k * 3 + 1, none⟩ (.int .i64 (z + 1))).ownsRow base 48 3 q (l.getD k sitv0).w.length (wtcells (l.getD k sitv0).w)) ∧
            ∀ w3, w3.ownsRow base 48 3 q (l.getD k sitv0).w.length (wtcells (mkWtL (kSit k0 l k + 2) (l.getD k sitv0).w.length)) → ((w1.setCell ⟨g, k * 3, none⟩ (.string M)).setCell ⟨g, k * 3 + 1, none⟩ (.int .i64 (z + 1))).grownBy w3 q.ownBlock →
              SitOwn w3 base top (.slice (some ⟨g, 0, none⟩) l.length cap) (mixSit k0 l (k + 1)) ∧ OnlyL base top w w3) := fun w1 b1 => by
          have X1 : SitX w1 base top (.slice (some ⟨g, 0, none⟩) l.length cap) cs (mixSit k0 l k) := X.same (Nat.le_refl _) fun b h1 h2 => b1.block b (by omega)
          have r1 := X1.row
          rw [hml] at r1
          have X1' : SitX w1 base top (.slice (some ⟨g, 0, none⟩) (mixSit k0 l k).length cap) cs (mixSit k0 l k) := by rw [hml]; exact X1
          obtain ⟨X2, G2⟩ := X1'.put (M := M) (z := z + 1) (by have := b1.size; omega) (k := k) (by rw [hml]; exact hlt)
          rw [hml] at X2
          have hkk : k < ((mixSit k0 l k).set k ⟨M, z + 1, ((mixSit k0 l k).getD k sitv0).w⟩).length := by rw [List.length_set, hml]; exact hlt
          have q2 := X2.part.2.1 k hkk
          rw [si_getD_set cs k k (by omega), sit_getD_set _ k k (by rw [hml]; exact hlt), if_pos rfl, if_pos rfl, hlk] at q2
          have r2 := X2.row
          rw [List.length_set, hml] at r2
          have hc : ((w1.setCell ⟨g, k * 3, none⟩ (.string M)).setCell ⟨g, k * 3 + 1, none⟩ (.int .i64 (z + 1))).cell? ⟨g, k * 3 + 2, none⟩ = some q := by
            rw [r2.cellAt (k * 3 + 2) (by omega)]
            have := (sicells_at (cs.set k ⟨M, z + 1, (cs.getD k siv0).q⟩) k (by rw [List.length_set]; omega)).2.2
            rw [si_getD_set cs k k (by omega), if_pos rfl] at this
            rw [this, hq]
          have q3 := q2.2.2.1
          dsimp only at q3
          rw [hq] at q3
          refine ⟨r1, hc, q3, fun w3 o3 g3 => ?_⟩
          have hz3 : top ≤ ((w1.setCell ⟨g, k * 3, none⟩ (.string M)).setCell ⟨g, k * 3 + 1, none⟩ (.int .i64 (z + 1))).heap.size := by simp; have := b1.size; omega
          have hqg : ((cs.set k ⟨M, z + 1, (cs.getD k siv0).q⟩).getD k siv0) = ⟨M, z + 1, q⟩ := by rw [si_getD_set cs k k (by omega), if_pos rfl, hq]
          have X3 := X2.turn (w' := w3) (y := mkSitX k0 l k) hkk hz3 (by rw [hqg]; exact g3) (by rw [hqg]; exact hM.symm) (by rw [hqg]; unfold mkSitX; dsimp only; omega) (by rw [hqg]; unfold mkSitX; dsimp only; rw [mkWtL_length]; exact o3)
          rw [List.set_set, mixSit_set k0 l hlt] at X3
          refine ⟨⟨_, X3⟩, HR.out.1.trans (((Only.of_below b1).trans (Only.of_grown G2 fun b hb => ?_)).trans (Only.of_grown g3 fun b hb => ⟨(q3.lt b hb).1, q2.2.2.2 b ?_⟩)), HR.out.2.trans (((LKeep.of_below b1).trans (LKeep.of_grown r1 G2 t_site_lease.symm)).trans (LKeep.of_grown q3 g3 t_lease_wait))⟩
          · injection hb with hb
            omega
          · rw [← hq] at hb; exact hb
        have HCW : Hid (∀ W, W.ownsRow base 48 3 q (l.getD k sitv0).w.length (wtcells (l.getD k sitv0).w) → Calls Try.prog 62 #[q, .int .i64 (z + 1 + 1)] W fun e w' => e = .returned (.int .i64 (((kSit k0 l k + 2) + 3 * (l.getD k sitv0).w.length : Nat) : Int)) ∧ w'.ownsRow base 48 3 q (l.getD k sitv0).w.length (wtcells (mkWtL (kSit k0 l k + 2) (l.getD k sitv0).w.length)) ∧ W.grownBy w' q.ownBlock) := fun W hW => by
          have := markWts (l.getD k sitv0).w q (kSit k0 l k + 2) base W (by omega) (by omega) hW
          rwa [show ((kSit k0 l k + 2 : Nat) : Int) = z + 1 + 1 by omega] at this
        obtain ⟨qa, qn, qc, hqs⟩ : ∃ qa qn qc, q = .slice qa qn qc := by
          have := (X.part.2.1 k (by rw [hml]; exact hlt)).2.2.1
          rw [hq] at this
          obtain ⟨a, c, e⟩ := (WtRow.of_own this).slice
          exact ⟨a, _, c, e⟩
        have hr0 := X.row
        rw [hml] at hr0
        obtain ⟨y, hy⟩ : ∃ y : Int, (((kSit k0 l k + 2) + 3 * (l.getD k sitv0).w.length : Nat) : Int) = y := ⟨_, rfl⟩
        have hy1 : y ≤ 1000000000 := by omega
        have hy0 : 0 < y := by omega
        have HY : Hid (y = ((kSit k0 l (k + 1) : Nat) : Int)) := hidM (by rw [← hy, hks])
        rw [hy] at HCW
        clear X HI HR hM hzz hks hml hlk htw hcl hq hy hk1 hr0
        subst hqs
        go_wp2_with fail
        refine (CM.out _).mono ?_
        rintro e w1 ⟨rfl, b1⟩
        obtain ⟨r1, c3, o3, HF⟩ := HS.out w1 b1
        have HF2 := hidM HF
        have CW2 := hidM (HCW.out _ o3)
        have hfz0 := r1.frozenAt (k * 3)
        have hfz1 := r1.frozenAt (k * 3 + 1)
        obtain ⟨⟨u0, hu0⟩, ⟨u1, hu1⟩, _⟩ := own_si r1 k hlt
        clear HF HCW HS CM b1 o3 r1
        go_wp2_with fail
        refine CW2.out.mono ?_
        rintro e w3 ⟨rfl, o3, g3⟩
        obtain ⟨S3, R3⟩ := HF2.out w3 o3 g3
        have S3 := hidM S3
        have R3 := hidM R3
        clear HF2 CW2 o3 g3 c3 hfz0 hfz1 hu0 hu1
        go_wp2_with fail
        go_roundw
        case rel => exact ⟨k + 1, y, by omega, by go_num, rfl, hy0, hy1, HY, S3, R3⟩
        case measure => simp [intOf]; omega
      · have hki : ¬ (k : Int) < l.length := by omega
        have hke : k = l.length := by omega
        have HE : Hid (Value.int .i64 z = .int .i64 ((kSit k0 l l.length : Nat) : Int)) := hidM (by rw [HZ.out, hke])
        have HI2 : Hid (SitOwn wr base top (.slice (some ⟨g, 0, none⟩) l.length cap) (markSit k0 l)) := hidM (by have := HI.out; rw [hke] at this; exact this)
        clear HI HZ hke
        go_wp2_with fail
        go_ret
        exact ⟨by first | exact congrArg _ HE.out | (rw [HE.out]; rfl), HI2.out, HR.out⟩
end Go.Proofs.Ytcjblhiihgdljaa
