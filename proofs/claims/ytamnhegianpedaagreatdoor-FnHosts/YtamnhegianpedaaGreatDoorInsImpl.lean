/- slices.Insert of one number into a row of ints that the caller owns: out of the library's four contracts. -/
import Derived.Test.YtamnhegianpedaaGreatDoorRows
import Derived.Test.YtamnhegianpedaaGreatDoorPunyDecWalk
import Derived.Test.YtamnhegianpedaaGreatDoorShelf
namespace Go.Proofs.YtamnhegianpedaaGreatDoor
open Go.RowKit Go.Shelf

theorem row_setCells (g : Nat) (e : TypeId) : ∀ (vs : List Value) (o : Nat) (w : World) (cur : Array Value), w.heap[g]? = some (.cells cur e (0, 0)) → o + vs.length ≤ cur.size →
    ∃ cur' : Array Value, (w.setCells g o vs).heap[g]? = some (.cells cur' e (0, 0)) ∧ cur'.toList = cur.toList.take o ++ (vs ++ cur.toList.drop (o + vs.length))
  | [], o, w, cur, h, _ => ⟨cur, h, by simp⟩
  | v :: r, o, w, cur, h, hl => by
    rw [List.length_cons] at hl
    obtain ⟨cur', h1, h2⟩ := row_setCells g e r (o + 1) (w.setCell ⟨g, o, none⟩ v) (cur.setIfInBounds o v) (heap_setCell_same w g o cur e v h) (by simp; omega)
    refine ⟨cur', h1, ?_⟩
    rw [h2, Array.toList_setIfInBounds, List.drop_set_of_lt (by omega), List.take_set, List.length_cons, show o + (r.length + 1) = o + 1 + r.length by omega]
    have hc : o < cur.toList.length := by simp; omega
    rw [List.take_succ_eq_append_getElem hc, List.set_append_right _ _ (by simp; omega)]
    have e1 : o - (cur.toList.take o).length = 0 := by simp; omega
    rw [e1]
    simp
theorem setCells_below {B g : Nat} (hb : B ≤ g) : ∀ (vs : List Value) (o : Nat) (a w : World), Below B a w → Below B a (w.setCells g o vs)
  | [], _, _, _, h => h
  | v :: r, o, a, _, h => setCells_below hb r (o + 1) a _ (h.setCell (p := ⟨g, o, none⟩) hb v)

theorem icN_ins (l : List Nat) (i x : Nat) : icN (insAt i x l) = (icN l).take i ++ ([Value.int .i64 (x : Int)] ++ (icN l).drop i) := by
  simp [icN, icells, insAt]
theorem icN_length (l : List Nat) : (icN l).length = l.length := by simp [icN, icells]
theorem icN_one (l : List Nat) : ∀ v ∈ icN l, v.oneCell' = true := by
  intro v hv
  simp [icN, icells] at hv
  obtain ⟨c, _, rfl⟩ := hv
  rfl

theorem icN_end (l : List Nat) (x : Nat) : icN (insAt l.length x l) = icN l ++ [Value.int .i64 (x : Int)] := by
  have h := icN_length l
  rw [icN_ins, List.take_of_length_le (by omega), List.drop_of_length_le (by omega), List.append_nil]
theorem zeros_size (z : Value) (n : Nat) (h : z.cells = #[z]) : (Builtin.zeroCells z.cells n).size = n := by
  rw [h]
  simp [Builtin.zeroCells]
theorem list_size {α : Type} {c : Array α} {l : List α} (h : c.toList = l) : c.size = l.length := by rw [← h]; simp

theorem implInsert (l : List Nat) (i x : Nat) (v : Value) (B : Nat) (w : World) (hown : w.ownsRow B 3 1 v l.length (icN l)) (hB : B ≤ w.heap.size) (hi : i ≤ l.length) (hl : l.length ≤ 1048576) :
    Calls Tryz.prog 169 #[v, .int .i64 (i : Int), .slice (some ⟨w.heap.size, 0, none⟩) 1 1] (w.alloc (.cells #[.int .i64 (x : Int)] 3)) fun e w' =>
      ∃ v', e = .returned v' ∧ w'.ownsRow B 3 1 v' (l.length + 1) (icN (insAt i x l)) ∧ Below B w w' := by
  have hil := icN_length l
  have hlen : (icN (insAt i x l)).length = (l.length + 1) * 1 := by rw [icN_length, insAt_length]; omega
  obtain ⟨W, hW⟩ : ∃ W, w.alloc (.cells #[.int .i64 (x : Int)] 3) = W := ⟨_, rfl⟩
  have hsz : W.heap.size = w.heap.size + 1 := by rw [← hW]; simp
  have hnew : W.heap[w.heap.size]? = some (.cells #[.int .i64 (x : Int)] 3 (0, 0)) := by rw [← hW]; exact heap_alloc_new w _
  have hcell : ∀ j u, [Value.int .i64 (x : Int)][j]? = some u → W.cell? ⟨w.heap.size, 0 + j, none⟩ = some u := by
    intro j u hj
    rw [Nat.zero_add, ← hW, World.cell?_alloc_at _ _ _ _ rfl]
    simpa using hj
  have hone : ∀ u ∈ [Value.int .i64 (x : Int)], u.oneCell' = true := by
    intro u hu
    rw [List.mem_singleton.1 hu]
    rfl
  have hoW : W.ownsRow B 3 1 v l.length (icN l) := by rw [← hW]; exact hown.alloc _
  have hbW : Below B w W := by rw [← hW]; exact (Below.refl B w).alloc hB _
  have hglt : ∀ g cap, v = .slice (some ⟨g, 0, none⟩) l.length cap → g ≠ w.heap.size := by
    intro g cap hv
    rcases hown.2 with ⟨h0, _⟩ | ⟨g', cap', cur, hv', _, hg, _⟩
    · rw [hv] at h0; cases h0
    · rw [hv] at hv'
      injection hv' with h1
      injection h1 with h1
      injection h1 with h1
      subst h1
      have := (Array.getElem?_eq_some_iff.1 hg).1
      omega
  rw [hW]
  rcases hoW.2 with ⟨rfl, h0⟩ | ⟨g, cap, cur, rfl, hb, hg, hnc, hcm, hcs, htake⟩
  · -- nothing yet
    have hl0 : l = [] := List.eq_nil_of_length_eq_zero h0
    subst hl0
    obtain rfl : i = 0 := by simpa using hi
    refine (Any2.slices_Insert_int_end_grow Tryz.laysNm221 none 0 0 w.heap.size 0 1 1 [] [.int .i64 (x : Int)] W (by decide) (Nat.le_refl _) (by decide) (by decide) rfl rfl (fun _ => rfl) (fun a h => by cases h) hcell hone).mono ?_
    rintro e w' ⟨rfl, rfl⟩
    have hc : 1 ≤ grownCap W 1 0 3 := grownCap_ge W 1 0 3
    refine ⟨_, rfl, ⟨hlen, .inr ⟨W.heap.size, _, _, rfl, by omega, heap_alloc_new W.drew _, hc, grownCap_le_maxLen W _ _ _ (by unfold maxLen; omega), ?_, ?_⟩⟩, hbW.trans (((Below.refl B W).drew).alloc (by show B ≤ W.heap.size; omega) _)⟩
    · show (([] ++ [Value.int .i64 (x : Int)]).toArray ++ Builtin.zeroCells (Value.int .i64 0).cells (grownCap W 1 0 3 - 1)).size = grownCap W 1 0 3 * 1
      rw [Array.size_append, zeros_size _ _ rfl]
      simp
      omega
    · simp [icN, icells, insAt]
  · simp only [Nat.mul_one] at hcs htake
    have hgw := hglt g cap rfl
    have hcells : ∀ (j : Nat) (u : Value), (icN l)[j]? = some u → W.cell? ⟨g, 0 + j, none⟩ = some u := by
      intro j u hj
      rw [Nat.zero_add]
      have hjl : j < l.length := by
        have := (List.getElem?_eq_some_iff.1 hj).1
        omega
      rw [← htake, List.getElem?_take_of_lt hjl] at hj
      simp only [World.cell?, hg]
      simpa using hj
    have hsp : ∀ j, j < cap → (W.cell? ⟨g, 0 + j, none⟩).isSome = true := by
      intro j hj
      rw [Nat.zero_add]
      simp only [World.cell?, hg]
      simp [hcs, hj]
    have hfz : ∀ j, W.frozen? ⟨g, 0 + j, none⟩ = false := fun j => own_frozen hoW (0 + j)
    have hcur : cur.toList.length = cap := by simp [hcs]
    by_cases hroom : l.length + 1 ≤ cap
    · by_cases hend : i = l.length
      · subst hend
        refine (Any2.slices_Insert_int_end_room Tryz.laysNm221 g 0 l.length cap w.heap.size 0 1 1 [.int .i64 (x : Int)] W (by decide) hroom (by unfold maxLen at hcm; omega) rfl (fun j hj => by rw [Nat.zero_add]; simpa using hsp (l.length + j) (by omega)) (fun j _ => by have := hfz (l.length + j); simpa using this) hcell hone).mono ?_
        rintro e w' ⟨rfl, rfl⟩
        obtain ⟨cur', h1, h2⟩ := row_setCells g 3 [.int .i64 (x : Int)] (0 + l.length) W cur hg (by simp; omega)
        refine ⟨_, rfl, ⟨hlen, .inr ⟨g, cap, cur', rfl, hb, h1, hroom, hcm, ?_, ?_⟩⟩, setCells_below hb _ _ _ _ hbW⟩
        · rw [list_size h2]
          simp
          omega
        · rw [Nat.mul_one, h2, Nat.zero_add, htake, ← List.append_assoc, List.take_left' (by simp [hil]), icN_end]
      · have hin : i < l.length := by omega
        refine (Any2.slices_Insert_int_shift Tryz.laysNm221 g 0 l.length cap i w.heap.size 0 1 1 (icN l) [.int .i64 (x : Int)] W hin (by decide) hroom (by unfold maxLen at hcm; omega) hgw.symm hil rfl hcells (fun j hj => hsp j (by omega)) (fun j _ => hfz j) hcell (icN_one l) hone
          3 3 1 cap (by simp [World.shape?, hnew]) (by simp [World.shape?, hg, hcs]) (by omega) (by simp [World.frozen?, hnew]) (by simp [World.frozen?, hnew])).mono ?_
        rintro e w' ⟨rfl, rfl⟩
        have hdl : ((icN l).drop i).length = l.length - i := by rw [List.length_drop, hil]
        obtain ⟨c1, h1, h2⟩ := row_setCells g 3 ((icN l).drop i) (0 + (i + 1)) W.drew cur hg (by omega)
        have s1 : c1.size = cap := by rw [list_size h2]; simp; omega
        obtain ⟨c2, h3, h4⟩ := row_setCells g 3 [.int .i64 (x : Int)] (0 + i) (W.drew.setCells g (0 + (i + 1)) ((icN l).drop i)) c1 h1 (by simp; omega)
        have t1 : c1.toList.take i = (icN l).take i := by
          rw [h2, List.take_append_of_le_length (by simp; omega), List.take_take, ← htake, List.take_take]
          congr 1
          omega
        have t2 : c1.toList.drop (i + 1) = (icN l).drop i ++ cur.toList.drop (0 + (i + 1) + ((icN l).drop i).length) := by
          rw [h2, List.drop_left' (by simp; omega)]
        have t3 : c2.toList = icN (insAt i x l) ++ cur.toList.drop (0 + (i + 1) + ((icN l).drop i).length) := by
          rw [h4, icN_ins, Nat.zero_add]
          simp only [List.length_singleton]
          rw [t1, t2]
          simp
        refine ⟨_, rfl, ⟨hlen, .inr ⟨g, cap, c2, rfl, hb, h3, hroom, hcm, ?_, ?_⟩⟩, setCells_below hb _ _ _ _ (setCells_below hb _ _ _ _ hbW.drew)⟩
        · rw [list_size h4]
          simp
          omega
        · rw [Nat.mul_one, t3, List.take_left' (by rw [icN_length, insAt_length])]
    · by_cases hend : i = l.length
      · subst hend
        refine (Any2.slices_Insert_int_end_grow Tryz.laysNm221 (some ⟨g, 0, none⟩) l.length cap w.heap.size 0 1 1 (icN l) [.int .i64 (x : Int)] W (by decide) hnc (by omega) (by omega) hil rfl (fun h => by cases h) (fun a ha j u hj => by cases ha; rw [Addr.add_lit]; exact hcells j u hj) hcell hone).mono ?_
        rintro e w' ⟨rfl, rfl⟩
        have hc := grownCap_ge W (l.length + 1) cap 3
        refine ⟨_, rfl, ⟨hlen, .inr ⟨W.heap.size, _, _, rfl, by omega, heap_alloc_new W.drew _, hc, grownCap_le_maxLen W _ _ _ (by unfold maxLen; omega), ?_, ?_⟩⟩, hbW.trans (((Below.refl B W).drew).alloc (by show B ≤ W.heap.size; omega) _)⟩
        · show ((icN l ++ [Value.int .i64 (x : Int)]).toArray ++ Builtin.zeroCells (Value.int .i64 0).cells (grownCap W (l.length + 1) cap 3 - (l.length + 1))).size = grownCap W (l.length + 1) cap 3 * 1
          rw [Array.size_append, zeros_size _ _ rfl]
          simp
          omega
        · rw [Nat.mul_one, Array.toList_append, List.take_left' (by simp [hil]), icN_end]
      · have hin : i < l.length := by omega
        have hct := Any2.slices_Insert_int_grow Tryz.laysNm221 g 0 l.length cap i w.heap.size 0 1 1 (icN l) [.int .i64 (x : Int)] W hin (by decide) hnc (by omega) (by omega) hil rfl hcells hcell (icN_one l) hone
        simp only [show Tryz.laysNm221_ren.t 3 = 3 from rfl] at hct
        refine hct.mono ?_
        rintro e w' ⟨rfl, rfl⟩
        have hdl : ((icN l).drop i).length = l.length - i := by rw [List.length_drop, hil]
        have hc := grownCap_ge W (l.length + 1) cap 3
        have hc2 := grownCap_le_maxLen W (l.length + 1) cap 3 (by unfold maxLen; omega)
        have hlen0 : (((icN l).take i).toArray ++ Builtin.zeroCells (Value.int .i64 0).cells (l.length + 1 - i) ++ Builtin.zeroCells (Value.int .i64 0).cells (grownCap W (l.length + 1) cap 3 - (l.length + 1))).size = grownCap W (l.length + 1) cap 3 := by
          rw [Array.size_append, Array.size_append, zeros_size _ _ rfl, zeros_size _ _ rfl]
          simp
          omega
        have htk : (((icN l).take i).toArray ++ Builtin.zeroCells (Value.int .i64 0).cells (l.length + 1 - i) ++ Builtin.zeroCells (Value.int .i64 0).cells (grownCap W (l.length + 1) cap 3 - (l.length + 1))).toList.take i = (icN l).take i := by
          rw [Array.toList_append, Array.toList_append, List.append_assoc, List.take_left' (by simp; omega)]
        generalize ((icN l).take i).toArray ++ Builtin.zeroCells (Value.int .i64 0).cells (l.length + 1 - i) ++ Builtin.zeroCells (Value.int .i64 0).cells (grownCap W (l.length + 1) cap 3 - (l.length + 1)) = c0 at hlen0 htk ⊢
        generalize grownCap W (l.length + 1) cap 3 = gc at hc hc2 hlen0 ⊢
        obtain ⟨c1, h1, h2⟩ := row_setCells W.heap.size 3 [.int .i64 (x : Int)] i (W.alloc (.cells c0 3)).drew c0 (heap_alloc_new W _) (by simp; omega)
        have s1 : c1.size = gc := by rw [list_size h2]; simp; omega
        obtain ⟨c2, h3, h4⟩ := row_setCells W.heap.size 3 ((icN l).drop i) (i + 1) ((W.alloc (.cells c0 3)).drew.setCells W.heap.size i [.int .i64 (x : Int)]).drew c1 h1 (by omega)
        have t1 : c1.toList.take (i + 1) = (icN l).take i ++ [Value.int .i64 (x : Int)] := by
          rw [h2, htk, ← List.append_assoc, List.take_left' (by simp; omega)]
        have t3 : c2.toList = icN (insAt i x l) ++ c1.toList.drop (i + 1 + ((icN l).drop i).length) := by
          rw [h4, icN_ins, t1]
          simp
        refine ⟨_, rfl, ⟨hlen, .inr ⟨W.heap.size, gc, c2, rfl, by omega, h3, hc, hc2, ?_, ?_⟩⟩, setCells_below (by omega) _ _ _ _ (Below.drew (setCells_below (by omega) _ _ _ _ (Below.drew (hbW.alloc (by omega) _))))⟩
        · rw [list_size h4]
          simp
          omega
        · rw [Nat.mul_one, t3, List.take_left' (by rw [icN_length, insAt_length])]
end Go.Proofs.YtamnhegianpedaaGreatDoor
