/- slices.SortFunc and SortedFunc, at leases by their keys. -/
import Derived.Test.YtcjblhiihgdljaaGreatRows
import Derived.Test.YtcjblhiihgdljaaGreatCollLs
import Derived.Test.YtcjblhiihgdljaaGreatSchImpl1
import Derived.Test.YtcjblhiihgdljaaGreatSchPure2
import Derived.Test.YtcjblhiihgdljaaGreatShelf
import Derived.Sort.OwnSorted
namespace Go.Proofs.YtcjblhiihgdljaaGreat
open Go.RowKit Go.Shelf Go.Maps Go.Sort
set_option linter.unusedVariables false
set_option linter.unusedSimpArgs false

abbrev T4 := ByteArray × ByteArray × Int × Int
def enc4 (x : T4) : List Value := [.string x.1, .string x.2.1, .int .i64 x.2.2.1, .int .i64 x.2.2.2]
def tup4 (x : LsV) : T4 := (x.k, x.s, x.p, x.u)
def unt4 (x : T4) : LsV := ⟨x.1, x.2.1, x.2.2.1, x.2.2.2⟩
def cf4 (x y : T4) : Int := Lib.compareBytes x.1.data.toList y.1.data.toList
theorem unt_tup (l : List LsV) : (l.map tup4).map unt4 = l := by
  rw [List.map_map]
  exact List.map_id' l
theorem lt4 (x y : T4) : ltOf cf4 x y = tl x.1 y.1 := by
  unfold ltOf cf4
  cases h : tl x.1 y.1 with
  | true => exact decide_eq_true ((tl_cmp _ _).2 h)
  | false => exact decide_eq_false fun h2 => by rw [(tl_cmp _ _).1 h2] at h; cases h
theorem swo4 : SWO (ltOf cf4) where
  irrefl := fun x => by rw [lt4]; exact tl_irrefl _
  trans := fun x y z h1 h2 => by rw [lt4] at *; exact tl_trans h1 h2
  ntrans := fun x y z h1 h2 => by
    rw [lt4] at *
    cases h3 : tl x.1 z.1 with
    | false => rfl
    | true =>
      cases h4 : tl y.1 x.1 with
      | true => rw [tl_trans h4 h3] at h2; cases h2
      | false =>
        have e : x.1 = y.1 := tl_tri h1 h4
        rw [e] at h3
        rw [h3] at h2; cases h2
theorem get_bang (l : List T4) {i : Nat} (h : i < l.length) : l.toArray[i]! = l[i] := by
  rw [getElem!_pos l.toArray i (by simpa using h)]
  simp
theorem unt_at (l : List T4) {i : Nat} (h : i < l.length) : (l.map unt4).getD i lsv0 = unt4 l[i] := by
  rw [List.getD_eq_getElem?_getD, List.getElem?_map, List.getElem?_eq_getElem h]
  rfl
theorem flat4 (l : List T4) : (flatK enc4 4 l.toArray).toList = lscells (l.map unt4) := by
  have key : ∀ i r (hi : i < l.length), r < 4 → (flatK enc4 4 l.toArray).toList[i * 4 + r]? = some ((enc4 (l[i]'hi))[r]!) := fun i r hi hr => by
    have hs : i * 4 + r < (flatK enc4 4 l.toArray).size := by simp; omega
    rw [Array.getElem?_toList, Array.getElem?_eq_getElem hs, ← getElem!_pos (flatK enc4 4 l.toArray) (i * 4 + r) hs, get_flatK _ _ _ _ (by simpa using hs), show (i * 4 + r) / 4 = i by omega, show (i * 4 + r) % 4 = r by omega, get_bang l hi]
  refine lscells_ext (by simp) fun i hi => ?_
  rw [List.length_map] at hi
  rw [unt_at l hi]
  exact ⟨key i 0 hi (by decide), key i 1 hi (by decide), key i 2 hi (by decide), key i 3 hi (by decide)⟩
theorem heap_sortedK {w : World} {g n : Nat} {os : Array Obj} {cur : Array Value} {e : TypeId} {fr : Nat × Nat} (d : Array T4) (hb : w.heap[g]? = some (.cells cur e fr)) :
    (sortWorldK enc4 4 w g 0 n d os).heap[g]? = some (.cells (putCells id 0 (flatK enc4 4 d) cur) e fr) := by
  have hg : g < w.heap.size := (Array.getElem?_eq_some_iff.1 hb).1
  unfold sortWorldK putRowK
  rw [heap_grow_old _ _ (by simpa using hg)]
  simp [putRow, mapBlock, Sort.ahead, Array.getElem?_modify, hb, onCells]
theorem grown_sortedK {w : World} {g n : Nat} {os : Array Obj} (d : Array T4) : w.grownBy (sortWorldK enc4 4 w g 0 n d os) (some g) := by
  unfold sortWorldK putRowK
  refine ⟨rfl, rfl, rfl, by simp, fun k hk hne => ?_⟩
  rw [heap_grow_old _ _ (by simpa using hk)]
  have : g ≠ k := fun e => hne (by rw [e])
  simp [putRow, mapBlock, Sort.ahead, Array.getElem?_modify, this]
theorem take_putK (cur F : Array Value) (h : F.size ≤ cur.size) : (putCells id 0 F cur).toList.take F.size = F.toList := by
  apply List.ext_getElem?
  intro j
  by_cases hj : j < F.size
  · rw [List.getElem?_take_of_lt hj, Array.getElem?_toList]
    simp [putCells, hj, show j < cur.size by omega]
  · rw [List.getElem?_take_eq_none (by omega), List.getElem?_eq_none (by simp; omega)]
theorem perm_list {d d' : Array T4} (h : PermIn 0 d.size d d') : d'.toList.Perm d.toList := by
  obtain ⟨h1, _, h3⟩ := h
  have e1 : (d'.extract 0 d.size) = d' := by rw [← h1]; exact Array.extract_size
  have e2 : (d.extract 0 d.size) = d := Array.extract_size
  rwa [e1, e2] at h3
theorem sorted_list {d : Array T4} (h : SortedIn (ltOf cf4) 0 d.size d) : (d.toList.map unt4).Pairwise fun a b => tl b.k a.k = false := by
  rw [List.pairwise_map, List.pairwise_iff_getElem]
  intro i j hi hj hij
  have := h i j (Nat.zero_le _) hij (by simpa using hj)
  rw [lt4, getElem!_pos d j (by simpa using hj), getElem!_pos d i (by simpa using hi)] at this
  simpa [unt4] using this
set_option maxHeartbeats 1000000 in
theorem byKeyLays (x y : T4) (W : World) : Calls Tryz.prog 113 (#[.agg (enc4 x).toArray, .agg (enc4 y).toArray] ++ #[]) W fun e w' => e = .returned (.int .i64 (cf4 x y)) ∧ ∃ q os', w' = grow (W.drewN q) os' := by
  have CC : Hid (∀ W, Calls Tryz.prog 100 #[.string x.1, .string y.1] W fun e w' => e = .returned (.int .i64 (cf4 x y)) ∧ w' = W) := fun W => Tryz.strings_Compare x.1 y.1 W
  show Calls Tryz.prog 113 #[.agg #[.string x.1, .string x.2.1, .int .i64 x.2.2.1, .int .i64 x.2.2.2], .agg #[.string y.1, .string y.2.1, .int .i64 y.2.2.1, .int .i64 y.2.2.2]] W _
  generalize cf4 x y = z at *
  go_enter Tryz.func113, Tryz.ntmps113
  go_wp2_with fail
  refine (CC.out _).mono ?_
  rintro e w1 ⟨rfl, rfl⟩
  go_wp2_with fail
  go_ret
  exact ⟨rfl, 0, _, by rw [alloc_eq_grow, alloc_eq_grow, grow_grow]; rfl⟩
/-- The leases sorted by key, in the same row. -/
def SrtR (w : World) (B : Nat) (v : Value) (xs : List LsV) (e : Ending) (w' : World) : Prop := e = .returned (.tuple #[]) ∧ ∃ ys : List LsV, ys.Perm xs ∧ (ys.Pairwise fun a b => tl b.k a.k = false) ∧ w'.ownsRow B 51 4 v xs.length (lscells ys) ∧ w.grownBy w' v.ownBlock
set_option maxHeartbeats 4000000 in
theorem implSortLs (xs : List LsV) (v : Value) (B : Nat) (w : World) (hl : xs.length ≤ 1048576) (h : w.ownsRow B 51 4 v xs.length (lscells xs)) :
    Calls Tryz.prog 156 #[v, .func (.func 113) #[] #[]] w fun e w' => SrtR w B v xs e w' := by
  by_cases h0 : xs.length = 0
  · obtain ⟨ao, ac, hv⟩ : ∃ a c, v = .slice a 0 c := by
      rcases h.2 with ⟨e, _⟩ | ⟨g, cap, cur, e, _⟩
      · exact ⟨none, 0, e⟩
      · exact ⟨_, _, by rw [e, h0]⟩
    have hx0 : xs = [] := List.eq_nil_of_length_eq_zero h0
    subst hx0 hv
    refine (AnyF.slices_SortFunc_none Tryz.laysSlsf6 ao ac _ w).mono ?_
    rintro e w' ⟨rfl, rfl⟩
    exact ⟨rfl, [], List.Perm.refl _, List.Pairwise.nil, h, World.grownBy.refl _ _⟩
  · rcases h.2 with ⟨_, h1⟩ | ⟨g, cap, cur, hv, hb, hgg, h1, h2, h3, h4⟩
    · exact absurd h1 h0
    · subst hv
      have hg : g < w.heap.size := (h.lt g rfl).2
      obtain ⟨d, hd⟩ : ∃ d : Array T4, d = (xs.map tup4).toArray := ⟨_, rfl⟩
      have hds : d.size = xs.length := by rw [hd]; simp
      have hflat : (flatK enc4 4 d).toList = lscells xs := by rw [hd, flat4, unt_tup]
      have HH : HoldsK enc4 4 w g 0 d := fun j hj => by
        have hj4 : j < xs.length * 4 := by simpa [hds] using hj
        refine ⟨?_, frozen_of_row _ _ _ _ _ hgg⟩
        rw [Nat.zero_add, cell_of_row w g j cur _ (0, 0) hgg, ← Array.getElem?_toList]
        have e1 : cur.toList[j]? = (lscells xs)[j]? := by rw [← h4, List.getElem?_take_of_lt hj4]
        rw [e1, ← hflat, Array.getElem?_toList, Array.getElem?_eq_getElem hj, ← getElem!_pos (flatK enc4 4 d) j hj]
        rfl
      have hc := AnyQ.slices_SortFunc Tryz.laysSlsf6 4 Tryz.isAgg51 Tryz.sizeOf51 enc4 (fun _ => rfl) (fun x u hu => by simp [enc4] at hu; rcases hu with rfl | rfl | rfl | rfl <;> rfl) cf4 swo4 113 #[] g 0 cap d w (enters_of Tryz.func113 (by kernel_rfl) rfl) (fun _ _ _ _ x y => byKeyLays x y _) HH hg (by omega)
      rw [hds] at hc
      refine hc.mono ?_
      rintro e w' ⟨rfl, d', m, os, hp, hs, rfl⟩
      have hps : d'.size = xs.length := hp.1.trans hds
      have hpl := perm_list (d := d) (d' := d') (by rw [hds]; exact hp)
      have hfl : (flatK enc4 4 d').toList = lscells (d'.toList.map unt4) := by
        have := flat4 d'.toList
        rwa [Array.toArray_toList] at this
      refine ⟨rfl, d'.toList.map unt4, ?_, sorted_list (by rw [hps]; exact hs), ?_, grown_sortedK d'⟩
      · have := hpl.map unt4
        rwa [hd, List.toList_toArray, unt_tup] at this
      · refine ⟨by rw [lscells_length, List.length_map, Array.length_toList, hps], .inr ⟨g, cap, _, rfl, hb, heap_sortedK d' hgg, h1, h2, by simp [putCells, h3], ?_⟩⟩
        have ht := take_putK cur (flatK enc4 4 d') (by rw [size_flatK, hps, h3]; omega)
        rw [size_flatK, hps, hfl] at ht
        exact ht
theorem perm_sorted {xs le : List LsV} (hp : xs.Perm le) (hs : xs.Pairwise fun a b => tl b.k a.k = false) (hl : le.Pairwise fun a b => lBef a b = true) : xs = le := by
  refine List.Perm.eq_of_pairwise (le := fun a b : LsV => tl b.k a.k = false) (fun a b ha hb h1 h2 => ?_) hs (hl.imp fun {a b} h => tl_asym h) hp
  have e : a.k = b.k := tl_tri h2 h1
  have ha2 := hp.mem_iff.1 ha
  obtain ⟨i, hi, rfl⟩ := mem_getD lsv0 ha2
  obtain ⟨j, hj, rfl⟩ := mem_getD lsv0 hb
  rcases Nat.lt_trichotomy i j with hij | hij | hij
  · exact absurd e (tl_ne (pair_at (R := fun a b => lBef a b = true) lsv0 hl hij hj))
  · rw [hij]
  · exact absurd e.symm (tl_ne (pair_at (R := fun a b => lBef a b = true) lsv0 hl hij hi))
theorem keys_nodup {le : List LsV} (hl : le.Pairwise fun a b => lBef a b = true) : (le.map kB).Nodup := by
  rw [List.nodup_iff_pairwise_ne, List.pairwise_map]
  exact hl.imp fun {a b} h e => tl_ne h (kB_inj e)
set_option maxHeartbeats 1000000 in
theorem implSortedLs (Bm b N : Nat) (le : List LsV) (w : World) (hN : N ≤ 1048576) (hle : le.length ≤ 1048576) (hBm : Bm < w.heap.size) (hm : w.cell? ⟨Bm, 0, none⟩ = some (.map (some b))) (hL : LMapO w b N le) (hs : le.Pairwise fun a b => lBef a b = true) :
    Calls Tryz.prog 136 #[.func (.func 157) #[] #[.pointer (some ⟨Bm, 0, none⟩)], .func (.func 113) #[] #[]] w fun e w' => ∃ v, e = .returned v ∧ w'.ownsRow w.heap.size 51 4 v le.length (lscells le) ∧ Below w.heap.size w w' := by
  have CO : Hid (Calls Tryz.prog 155 #[.func (.func 157) #[] #[.pointer (some ⟨Bm, 0, none⟩)]] w fun e w' => PermR w le e w') := callsIn_wide.1 (implColl 4 (Nat.le_refl _) Bm b N le w hN hBm hm hL (keys_nodup hs))
  have HS := hidM hs
  clear hL hs
  go_enter Tryz.func136, Tryz.ntmps136
  go_wp2_with fail
  refine CO.out.mono ?_
  rintro e w1 ⟨xs, v, rfl, hp, o1, b1⟩
  have hxl : xs.length = le.length := hp.length_eq
  have C1 := hidM (implSortLs xs v w.heap.size w1 (by omega) o1)
  have HP := hidM hp
  have HO := hidM o1
  clear hp o1 CO
  go_wp2_with fail
  refine C1.out.mono ?_
  rintro e w2 ⟨rfl, ys, h1, h2, o2, g2⟩
  have hye : ys = le := perm_sorted (h1.trans HP.out) h2 HS.out
  subst hye
  have B2 : Below w.heap.size w w2 := b1.grown g2 b1.size (fun k e => (HO.out.lt k e).1)
  have O2 := hidM (show w2.ownsRow w.heap.size 51 4 v ys.length (lscells ys) by rw [← hxl]; exact o2)
  clear o2 g2 h1 h2 C1 HP HO
  go_wp2_with fail
  go_ret
  exact ⟨v, rfl, O2.out, B2⟩
end Go.Proofs.YtcjblhiihgdljaaGreat
