/- Contracts of the code's nameOfParts and RulesText. -/
import Derived.Test.YtijliddchoehhaaDoorRows
import Derived.Test.YtijliddchoehhaaDoorRulesImpl2
import Derived.Test.YtijliddchoehhaaDoorRuleSpec3
import Derived.Test.YtijliddchoehhaaDoorRuleLen
import Derived.Test.YtijliddchoehhaaDoorShelf
import Derived.Shelf.Strings.BuilderK
import Derived.Sort.OwnSorted
namespace Go.Proofs.YtijliddchoehhaaDoor
open Go.RowKit
set_option linter.unusedVariables false
theorem jn_lib (b : UInt8) (ls : List ByteArray) : Lib.join (ls.map (·.data.toList)) [b] = jn b ls := by
  cases ls with
  | nil => rfl
  | cons x xs =>
    unfold jn
    induction xs generalizing x with
    | nil => simp [Lib.join, List.intercalate]
    | cons y ys ih =>
      have h := ih y
      simp only [Lib.join, List.intercalate, List.map_cons] at h ⊢
      rw [List.intersperse_cons_cons, List.flatten_cons, List.flatten_cons, h, List.flatMap_cons]
      simp
set_option maxHeartbeats 1000000 in
/-- A row of texts, wherever it lies, the last one first. -/
theorem implRowFirst (fs : List ByteArray) (v : Value) (w : World) (h0 : 0 < fs.length) (h1 : fs.length ≤ 2097152) (h : StrRow w v fs) :
    Calls Tryd.prog 46 #[v] w fun e w' => ∃ v', e = .returned v' ∧ w'.ownsRow w.heap.size 9 1 v' fs.length (scells fs.reverse) ∧ Below w.heap.size w w' := by
  obtain ⟨i0, hi, hz0, hz1, hz2⟩ := info_parts Tryd.infoStr
  rcases h with ⟨h, _⟩ | ⟨_, g, off, cap, rfl, hg, hc⟩
  · rw [h] at h0; simp at h0
  · have HC : Hid (Calls Tryd.prog 62 #[.slice (some ⟨g, off, none⟩) fs.length (fs.length + cap)] w fun e w' => ∃ v', e = .returned v' ∧ w'.ownsRow w.heap.size 9 1 v' fs.length (scells fs) ∧ Below w.heap.size w w') := by
      refine (AnyE.slices_Clone Tryd.laysSlgn41 i0 _ 1 16 hi hz0 hz1 hz2 rfl (by decide) Tryd.sizeOf9 g off fs.length (fs.length + cap) (scells fs) w (by rw [scells_length, Nat.mul_one]) (by unfold maxLen; omega) (by omega) ?_ ?_).mono ?_
      · intro j u hj
        have hjl : j < fs.length := by
          have := (List.getElem?_eq_some_iff.1 hj).1
          rwa [scells_length] at this
        rw [hc j hjl]
        unfold scells at hj
        rw [List.getElem?_map, List.getElem?_eq_getElem hjl] at hj
        rw [← hj, List.getD_eq_getElem?_getD, List.getElem?_eq_getElem hjl]
        rfl
      · intro u hu
        unfold scells at hu
        obtain ⟨b, _, rfl⟩ := List.mem_map.1 hu
        rfl
      · rintro e w' ⟨v', he, ho, _, hb⟩
        exact ⟨v', he, ho, hb⟩
    clear hc
    go_enter Tryd.func46, Tryd.ntmps46
    go_wp2_with fail
    refine HC.out.mono ?_
    rintro e wa ⟨va, rfl, oa, ba⟩
    rcases oa.2 with ⟨_, hx⟩ | ⟨q, cq, cur, rfl, hbase, hb, p1, p2, p3, p4⟩
    · exact absurd hx (by omega)
    · have hH : Sort.Holds Go.Proofs.encStr wa q 0 (fs.map (·.data.toList)).toArray := holds_of_block hb (by rw [List.length_map, ← scells_enc]; simpa using p4)
      have HR : Hid (Calls Tryd.prog 63 #[.slice (some ⟨q, 0, none⟩) fs.length cq] wa fun e w' => e = .returned (.tuple #[]) ∧ w'.ownsRow w.heap.size 9 1 (.slice (some ⟨q, 0, none⟩) fs.length cq) fs.length (scells fs.reverse) ∧ wa.grownBy w' (some q)) := by
        have hr := AnyE.slices_Reverse Tryd.laysSlgn35 Go.Proofs.encStr enc_one q 0 cq (fs.map (·.data.toList)) wa hH (by rw [List.length_map]; omega)
        rw [List.length_map] at hr
        refine hr.mono ?_
        rintro e w' ⟨he, n, hw⟩
        refine ⟨he, ?_, ?_⟩
        · have := ownsRow_sorted (n := n) (os := #[]) (ss := fs.map (·.data.toList)) (ts := (fs.map (·.data.toList)).reverse) (by simp) hbase hb (by rw [List.length_map]; exact p1) p2 p3
          rw [Sort.grow_empty, ← hw, List.length_map, ← List.map_reverse, ← scells_enc] at this
          exact this
        · have := grownBy_sorted (w := wa) (g := q) (n := n) (os := #[]) (fs.map (·.data.toList)).reverse.toArray
          rw [Sort.grow_empty, ← hw] at this
          exact this
      clear hH hb p4 p3 p2 p1 oa
      go_wp2_with fail
      refine HR.out.mono ?_
      rintro e wb ⟨rfl, ob, gb⟩
      have B2 : Below w.heap.size w wb := ba.grown gb ba.size (fun k hk => by cases hk; exact hbase)
      clear gb ba
      go_wp2_with fail
      go_ret
      exact ⟨_, rfl, ob, B2⟩
set_option maxHeartbeats 1000000 in
theorem implNameParts (fs : List ByteArray) (v : Value) (w : World) (h0 : 0 < fs.length) (h1 : fs.length ≤ 2097152) (hj : (jn 46 fs.reverse).length ≤ 1099511627776) (h : StrRow w v fs) :
    Calls Tryd.prog 20 #[v] w fun e w' => e = .returned (.string ⟨(jn 46 fs.reverse).toArray⟩) ∧ Below w.heap.size w w' := by
  have CL0 := implRowFirst fs v w h0 h1 h
  have hrl : fs.reverse.length = fs.length := List.length_reverse
  rw [← hrl] at CL0 h0 h1
  obtain ⟨ao, cap, hv⟩ := h.slice
  clear h
  generalize fs.length = nf at *
  generalize fs.reverse = ls at *
  have CL : Hid (Calls Tryd.prog 46 #[v] w fun e w' => ∃ v', e = .returned v' ∧ w'.ownsRow w.heap.size 9 1 v' ls.length (scells ls) ∧ Below w.heap.size w w') := CL0
  clear CL0 hrl
  subst hv
  go_enter Tryd.func20, Tryd.ntmps20
  go_wp2_with fail
  refine CL.out.mono ?_
  rintro e wa ⟨va, rfl, oa, ba⟩
  clear CL
  rcases own_shape oa with ⟨h, _⟩ | ⟨_, g, cap', rfl⟩
  · omega
  · have CJ := Tryd.strings_Join g 0 cap' ls ⟨#[46]⟩ wa (fun j x hj => by
        have hjl : j < ls.length := (List.getElem?_eq_some_iff.1 hj).1
        rw [Nat.zero_add, scell_at oa j hjl, List.getD_eq_getElem?_getD, hj]
        rfl) (oa.lt g rfl).2 (by omega) (own_room oa) (by
        rw [show (⟨#[46]⟩ : ByteArray).data.toList = [46] from rfl, jn_lib]; omega)
    rw [show (⟨#[46]⟩ : ByteArray).data.toList = [46] from rfl, jn_lib] at CJ
    have CJ : Hid (Calls Tryd.prog 45 #[.slice (some ⟨g, 0, none⟩) ls.length cap', .string ⟨#[46]⟩] wa fun e w' => e = .returned (.string ⟨(jn 46 ls).toArray⟩) ∧ Below wa.heap.size wa w') := CJ
    clear oa
    go_wp2_with fail
    refine CJ.out.mono ?_
    rintro e wd ⟨rfl, bd⟩
    go_wp2_with fail
    go_ret
    exact ⟨rfl, ba.trans (bd.mono ba.size)⟩
/-- A builder in a block of its own. -/
abbrev Bld (B : Nat) (l : List UInt8) (w : World) : Prop := Lib.IsBuilderF 43 5 B B (Lib.byteCells l) w
theorem Bld.new (w : World) : Bld w.heap.size [] (w.alloc (.cells #[.pointer none, .slice none 0 0] 43)) := Lib.IsBuilderF.of (Lib.fresh_isBuilder _ _ w)
theorem bldAt_below {T e : TypeId} {B b : Nat} {p : Value} {bs : List Value} {w w' : World} (h : Lib.BuilderAtF T e B b p bs w) (hb : Below w.heap.size w w') : Lib.BuilderAtF T e B b p bs w' := by
  have hl := h.lt
  obtain ⟨h1, v, h2, h3, h4⟩ := h
  exact ⟨h1, v, (hb.block b hl).trans h2, h3.kept (row := none) ⟨hb.os, hb.tape, hb.output, hb.size, fun k hk _ => hb.block k hk⟩ (by cases hv : v.ownBlock <;> simp), h4⟩
theorem Bld.below {B : Nat} {l : List UInt8} {w w' : World} (h : Bld B l w) (hb : Below w.heap.size w w') : Bld B l w' := by
  rcases h with h | h
  · exact .inl (bldAt_below h hb)
  · exact .inr (bldAt_below h hb)
theorem Bld.lt {B : Nat} {l : List UInt8} {w : World} (h : Bld B l w) : B < w.heap.size := by
  rcases h with h | h
  · exact h.lt
  · exact h.lt
theorem bldWrite (B : Nat) (l : List UInt8) (s : ByteArray) (w : World) (hl : l.length + s.size ≤ 140737488355328) (h : Bld B l w) :
    Calls Tryd.prog 19 #[.pointer (some ⟨B, 0, none⟩), .string s] w fun e w' => e = .returned (.tuple #[.int .i64 s.size, .nilIface]) ∧ Bld B (l ++ s.data.toList) w' ∧ Below B w w' ∧ Lib.OthersKept 5 (some B) w w' := by
  refine (Any.Builder_WriteString_k { Tryd.lays156 with } Tryd.Builder_Extra_156 B B (Lib.byteCells l) s w h (by rw [Lib.byteCells_length]; exact hl) (Nat.le_of_lt h.lt)).mono ?_
  rintro e w' ⟨he, hb, h1, h2⟩
  refine ⟨he, .inr ?_, h1, h2⟩
  have e2 : Lib.byteCells (l ++ s.data.toList) = Lib.byteCells l ++ Lib.strCells s := by unfold Lib.byteCells Lib.strCells; rw [List.map_append]
  rw [e2]
  exact hb
def Tryd.ren167 : Go.Shelf.Ren := ⟨fun n => if n = 167 then 21 else Tryd.lays156_ren.f n, Tryd.lays156_ren.t, Tryd.lays156_ren.g⟩
set_option maxRecDepth 100000 in
theorem Tryd.lays167 : Lays.n167 Tryd.prog Tryd.ren167 := { Tryd.lays156, Tryd.Builder_Extra_156 with
  f167 := by kernel_rfl
  f240 := by kernel_rfl
  f276 := by kernel_rfl }
set_option maxRecDepth 100000 in
theorem Tryd.extra167 : Builder.Extra Tryd.prog Tryd.ren167 := { Tryd.Builder_Extra_156 with }
theorem bldByte (B : Nat) (l : List UInt8) (c : UInt8) (w : World) (hl : l.length + 1 ≤ 140737488355328) (h : Bld B l w) :
    Calls Tryd.prog 21 #[.pointer (some ⟨B, 0, none⟩), .int .u8 (c.toNat : Int)] w fun e w' => e = .returned .nilIface ∧ Bld B (l ++ [c]) w' ∧ Below B w w' ∧ Lib.OthersKept 5 (some B) w w' := by
  refine (Any.Builder_WriteByte_k Tryd.lays167 Tryd.extra167 B B (Lib.byteCells l) (c.toNat : Int) w h (by rw [Lib.byteCells_length]; exact hl) (Nat.le_of_lt h.lt)).mono ?_
  rintro e w' ⟨he, hb, h1, h2⟩
  refine ⟨he, .inr ?_, h1, h2⟩
  have e2 : Lib.byteCells (l ++ [c]) = Lib.byteCells l ++ [.int .u8 (c.toNat : Int)] := by unfold Lib.byteCells; rw [List.map_append]; rfl
  rw [e2]
  exact hb
theorem bldString (B : Nat) (l : List UInt8) (w : World) (h : Bld B l w) :
    Calls Tryd.prog 22 #[.pointer (some ⟨B, 0, none⟩)] w fun e w' => e = .returned (.string ⟨l.toArray⟩) ∧ Below B w w' :=
  (Tryd.Builder_String_any_f B B l w h (Nat.le_of_lt h.lt)).mono fun e w' x => ⟨x.1, x.2.2⟩
set_option maxHeartbeats 4000000 in
theorem implRulesText (l : List RV) (v : Value) (w : World) (hl : l.length ≤ 1048576) (hz : RSz l) (h : RuleRow w v l) :
    Calls Tryd.prog 7 #[v] w fun e w' => e = .returned (.string ⟨(rulesT l).toArray⟩) ∧ Below w.heap.size w w' := by
  have CO : Hid (Calls Tryd.prog 9 #[v] w fun e w' => e = .returned (.bool (rulesB l)) ∧ Below w.heap.size w w') := implRulesOk l v w hl hz h
  clear hz
  cases hr : rulesB l with
  | false =>
    have HE : Hid (rulesT l = []) := by
      show _ = _
      unfold rulesT
      rw [if_neg (by rw [hr]; decide)]
    rw [hr] at CO
    clear hr
    obtain ⟨ao, cap, rfl⟩ := h.slice
    clear h
    go_enter Tryd.func7, Tryd.ntmps7
    go_wp2_with fail
    refine CO.out.mono ?_
    rintro e w1 ⟨rfl, b1⟩
    go_wp2_with fail
    go_ret
    exact ⟨by rw [HE.out]; rfl, b1⟩
  | true =>
    have HE : Hid (rulesT l = l.flatMap ruleT) := by
      show _ = _
      unfold rulesT
      rw [if_pos hr]
    rw [hr] at CO
    have HR : Hid (rulesB l = true) := hr
    clear hr
    obtain ⟨ao, cap, hv⟩ := h.slice
    have HROW : Hid (RuleRow w (.slice ao l.length cap) l) := by rw [hv] at h; exact h
    subst hv
    clear h
    go_enter Tryd.func7, Tryd.ntmps7
    go_wp2_with fail
    refine CO.out.mono ?_
    rintro e w1 ⟨rfl, b1⟩
    clear CO
    have HB0 : Hid (Bld w1.heap.size [] (w1.alloc (.cells #[.pointer none, .slice none 0 0] 43))) := Bld.new w1
    have bb0 : Below w1.heap.size w1 (w1.alloc (.cells #[.pointer none, .slice none 0 0] 43)) := (Below.refl _ _).alloc (Nat.le_refl _) _
    go_wp2_with fail
    go_loopw [11] (fun i wr => ∃ k : Nat, k ≤ l.length ∧ i = .int .i64 k ∧ Hid (Bld w1.heap.size ((l.take k).flatMap ruleT) wr) ∧ Below w1.heap.size w1 wr) (fun i _ => l.length - (intOf i).toNat)
    case atStart => exact ⟨0, Nat.zero_le _, rfl, HB0, bb0⟩
    case round =>
      obtain ⟨k, hk, rfl, HB, hbel⟩ := hrel
      clear HB0 bb0
      by_cases hlt : k < l.length
      · have hki : (k : Int) < l.length := by omega
        have h60 : l.length ≤ 60 := (rules_at HR.out hlt).2
        obtain ⟨g, off, p, cc, hv, hg, c1, c2, c3⟩ : ∃ g off p cc, Value.slice ao l.length cap = .slice (some ⟨g, off, none⟩) l.length cc ∧ g < w.heap.size ∧ w.cell? ⟨g, off + k * 2, none⟩ = some p ∧ StrRow w p (l.getD k rv0).ps ∧ w.cell? ⟨g, off + k * 2 + 1, none⟩ = some (.bool (l.getD k rv0).ex) := by
          rcases HROW.out with ⟨h, _⟩ | ⟨_, g, off, cc, h1, h2, h3⟩
          · rw [h] at hlt; simp at hlt
          · obtain ⟨p, q1, q2, q3⟩ := h3 k hlt
            exact ⟨g, off, p, _, h1, h2, q1, q2, q3⟩
        have hba := b1.trans (hbel.mono b1.size)
        have c1w := (hba.cell (p := ⟨g, off + k * 2, none⟩) hg).trans c1
        have c3w := (hba.cell (p := ⟨g, off + k * 2 + 1, none⟩) hg).trans c3
        have hru := (rules_at HR.out hlt).1
        have hrt := ruleT_le hru
        obtain ⟨⟨hr1, hr8⟩, _, _⟩ := ruleB_yes hru
        have hft : ((l.take k).flatMap ruleT).length ≤ 36000 := by
          have h1 := flat_le (l := l.take k) (fun r hr => by
            obtain ⟨i, hi, rfl⟩ := List.getElem_of_mem hr
            rw [List.length_take] at hi
            have := (rules_at HR.out (i := i) (by omega)).1
            rw [List.getD_eq_getElem?_getD, List.getElem?_eq_getElem (by omega)] at this
            rw [List.getElem_take]
            exact this)
          rw [List.length_take] at h1
          have : min k l.length * 600 ≤ 60 * 600 := Nat.mul_le_mul (by omega) (Nat.le_refl _)
          omega
        have HT : Hid ((l.take (k + 1)).flatMap ruleT = (l.take k).flatMap ruleT ++ ruleT (l.getD k rv0)) := flat_snoc hlt
        have C2 : Hid (StrRow w p (l.getD k rv0).ps) := c2
        cases hv
        clear c1 c2 c3 hru HROW
        generalize l.getD k rv0 = r at *
        obtain ⟨po, pcap, hpo⟩ := C2.out.slice
        rw [hpo] at c1w C2
        clear hpo
        have hjl : (jn 46 r.ps.reverse).length ≤ 600 := by
          unfold ruleT at hrt
          rw [List.length_append, List.length_append] at hrt
          omega
        have HRT : Hid (ruleT r = (if r.ex = true then [33] else []) ++ jn 46 r.ps.reverse ++ [10]) := rfl
        generalize ruleT r = RT at HRT HT
        generalize List.flatMap ruleT (l.take k) = L0 at HT HB hft
        obtain ⟨L9, hL9⟩ : ∃ L9, List.flatMap ruleT (l.take (k + 1)) = L9 := ⟨_, rfl⟩
        rw [hL9] at HT
        have H9 : Hid (List.flatMap ruleT (l.take (k + 1)) = L9) := hL9
        clear hL9
        have hexq : r.ex = true ∨ r.ex = false := by cases r.ex <;> simp
        obtain ⟨np, hnp⟩ : ∃ np, r.ps.length = np := ⟨_, rfl⟩
        have CN : Hid (∀ W, Below w.heap.size w W → Calls Tryd.prog 20 #[.slice po r.ps.length pcap] W fun e w' => e = .returned (.string ⟨(jn 46 r.ps.reverse).toArray⟩) ∧ Below W.heap.size W w') := fun W hW => implNameParts r.ps _ W (by omega) (by omega) (by omega) (C2.out.below hW)
        rw [hnp] at CN c1w
        clear hnp C2
        generalize r.ps.reverse = rps at *
        generalize jn 46 rps = J at *
        generalize r.ex = ex at *
        go_upto_region 7 with fail
        obtain ⟨O, hO⟩ : ∃ O, O = wr.alloc (.cells #[.slice po np pcap, .bool ex] 32) := ⟨_, rfl⟩
        have hOD : O.heap[wr.heap.size]? = some (.cells #[.slice po np pcap, .bool ex] 32) := by rw [hO]; exact heap_alloc_new wr _
        have bO : Below wr.heap.size wr O := by rw [hO]; exact (Below.refl _ _).alloc (Nat.le_refl _) _
        have AO : BAt O wr.heap.size [.slice po np pcap, .bool ex] := by rw [hO]; exact BAt.new wr #[.slice po np pcap, .bool ex] _
        rw [← hO]
        clear hO c1w c3w
        have HBO : Hid (Bld w1.heap.size L0 O) := HB.out.below bO
        have hBD : w1.heap.size < wr.heap.size := HB.out.lt
        have BO : Below w1.heap.size w1 O := hbel.trans (bO.mono hbel.size)
        have BW : Below w.heap.size w O := hba.trans (bO.mono hba.size)
        clear HB bO hbel hba
        have d0 := AO.1 0 _ rfl
        have d1 := AO.1 1 _ rfl
        have hzD := AO.2.2
        generalize wr.heap.size = D at *
        rcases hexq with rfl | rfl
        · have C1 : Hid (Calls Tryd.prog 19 #[.pointer (some ⟨w1.heap.size, 0, none⟩), .string ⟨#[33]⟩] O fun e w' => e = .returned (.tuple #[.int .i64 1, .nilIface]) ∧ Bld w1.heap.size (L0 ++ [33]) w' ∧ Below w1.heap.size O w' ∧ Lib.OthersKept 5 (some w1.heap.size) O w') := bldWrite w1.heap.size L0 ⟨#[33]⟩ O (by show L0.length + 1 ≤ _; omega) HBO.out
          go_wp2_with fail
          refine C1.out.mono ?_
          rintro e wa ⟨rfl, ha, bwa, kwa⟩
          have hDa : wa.heap[D]? = O.heap[D]? := (kwa D _ hOD (fun h => by cases h; omega) (fun c fz h => by injection h with _ h2; exact absurd h2 (by decide))).trans hOD.symm
          have A1 := AO.same (bwa.size) hDa
          have HBA : Hid (Bld w1.heap.size (L0 ++ [33]) wa) := ha
          have HL : Hid (RT = [33] ++ J ++ [10]) := HRT.out
          have BO1 := BO.trans bwa
          have BW1 := BW.trans (bwa.mono b1.size)
          have hl1 : (L0 ++ [33]).length ≤ 36001 := by rw [List.length_append]; simp; omega
          have HL0 : Hid (L9 = (L0 ++ [33]) ++ J ++ [10]) := by show _ = _; rw [HT.out, HL.out]; simp
          clear ha bwa kwa hDa BO BW HBO AO d0 d1 C1 HL HT HRT hft hOD
          have d0 := A1.1 0 _ rfl
          generalize L0 ++ [33] = L1 at *
          go_wp2_with fail
          refine (CN.out _ BW1).mono ?_
          rintro e wb ⟨rfl, bb⟩
          have HBB : Hid (Bld w1.heap.size L1 wb) := HBA.out.below bb
          have hTs : (⟨J.toArray⟩ : ByteArray).size = J.length := List.size_toArray
          have C2 : Hid (Calls Tryd.prog 19 #[.pointer (some ⟨w1.heap.size, 0, none⟩), .string ⟨J.toArray⟩] wb fun e w' => e = .returned (.tuple #[.int .i64 (⟨J.toArray⟩ : ByteArray).size, .nilIface]) ∧ Bld w1.heap.size (L1 ++ J) w' ∧ Below w1.heap.size wb w' ∧ Lib.OthersKept 5 (some w1.heap.size) wb w') := bldWrite w1.heap.size L1 ⟨J.toArray⟩ wb (by omega) HBB.out
          have BO2 := BO1.trans (bb.mono BO1.size)
          clear bb BW1 BO1 HBA CN d0
          go_wp2_with fail
          refine C2.out.mono ?_
          rintro e wc ⟨rfl, hc, bwc, _⟩
          have HBC : Hid (Bld w1.heap.size (L1 ++ J) wc) := hc
          have BO3 := BO2.trans bwc
          have C3 : Hid (Calls Tryd.prog 21 #[.pointer (some ⟨w1.heap.size, 0, none⟩), .int .u8 10] wc fun e w' => e = .returned .nilIface ∧ Bld w1.heap.size (L1 ++ J ++ [10]) w' ∧ Below w1.heap.size wc w' ∧ Lib.OthersKept 5 (some w1.heap.size) wc w') := bldByte w1.heap.size (L1 ++ J) 10 wc (by rw [List.length_append]; omega) hc
          clear hc bwc BO2 HBB C2
          go_wp2_with fail
          refine C3.out.mono ?_
          rintro e wd ⟨rfl, hd, bwd, _⟩
          have BO4 := BO3.trans bwd
          have HBD : Hid (Bld w1.heap.size L9 wd) := by show Bld _ _ _; rw [HL0.out]; exact hd
          clear hd bwd BO3 C3 HBC
          go_wp2_with fail
          go_roundw
          case rel => exact ⟨k + 1, by omega, by go_num, by rw [H9.out]; exact HBD, BO4⟩
          case measure => simp [intOf]; omega
        · have HBA : Hid (Bld w1.heap.size L0 O) := HBO.out
          have HL : Hid (RT = [] ++ J ++ [10]) := HRT.out
          have hl1 : L0.length ≤ 36001 := by omega
          have HL0 : Hid (L9 = L0 ++ J ++ [10]) := by show _ = _; rw [HT.out, HL.out]; simp
          have BO1 := BO
          have BW1 := BW
          clear HBO BO BW HL HT HRT hft hOD AO
          generalize L0 = L1 at *
          generalize O = wa at *
          go_wp2_with fail
          refine (CN.out _ BW1).mono ?_
          rintro e wb ⟨rfl, bb⟩
          have HBB : Hid (Bld w1.heap.size L1 wb) := HBA.out.below bb
          have hTs : (⟨J.toArray⟩ : ByteArray).size = J.length := List.size_toArray
          have C2 : Hid (Calls Tryd.prog 19 #[.pointer (some ⟨w1.heap.size, 0, none⟩), .string ⟨J.toArray⟩] wb fun e w' => e = .returned (.tuple #[.int .i64 (⟨J.toArray⟩ : ByteArray).size, .nilIface]) ∧ Bld w1.heap.size (L1 ++ J) w' ∧ Below w1.heap.size wb w' ∧ Lib.OthersKept 5 (some w1.heap.size) wb w') := bldWrite w1.heap.size L1 ⟨J.toArray⟩ wb (by omega) HBB.out
          have BO2 := BO1.trans (bb.mono BO1.size)
          clear bb BW1 BO1 HBA CN d0
          go_wp2_with fail
          refine C2.out.mono ?_
          rintro e wc ⟨rfl, hc, bwc, _⟩
          have HBC : Hid (Bld w1.heap.size (L1 ++ J) wc) := hc
          have BO3 := BO2.trans bwc
          have C3 : Hid (Calls Tryd.prog 21 #[.pointer (some ⟨w1.heap.size, 0, none⟩), .int .u8 10] wc fun e w' => e = .returned .nilIface ∧ Bld w1.heap.size (L1 ++ J ++ [10]) w' ∧ Below w1.heap.size wc w' ∧ Lib.OthersKept 5 (some w1.heap.size) wc w') := bldByte w1.heap.size (L1 ++ J) 10 wc (by rw [List.length_append]; omega) hc
          clear hc bwc BO2 HBB C2
          go_wp2_with fail
          refine C3.out.mono ?_
          rintro e wd ⟨rfl, hd, bwd, _⟩
          have BO4 := BO3.trans bwd
          have HBD : Hid (Bld w1.heap.size L9 wd) := by show Bld _ _ _; rw [HL0.out]; exact hd
          clear hd bwd BO3 C3 HBC
          go_wp2_with fail
          go_roundw
          case rel => exact ⟨k + 1, by omega, by go_num, by rw [H9.out]; exact HBD, BO4⟩
          case measure => simp [intOf]; omega
      · have hki : ¬ (k : Int) < l.length := by omega
        have HF : Hid (Bld w1.heap.size (rulesT l) wr) := by
          show Bld _ _ _
          rw [HE.out]
          have := HB.out
          rwa [show k = l.length by omega, List.take_length] at this
        clear HB HROW
        go_wp2_with fail
        refine (bldString _ _ _ HF.out).mono ?_
        rintro e w2 ⟨rfl, b2⟩
        go_wp2_with fail
        go_ret
        exact ⟨rfl, (b1.trans (hbel.mono b1.size)).trans (b2.mono b1.size)⟩
end Go.Proofs.YtijliddchoehhaaDoor
