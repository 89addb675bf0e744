/- Proved: laws.FnMaps answers true at every row of bytes and leaves it as it was, package impl's table of escapes and package utf8's two tables being as their text lays them; no other condition. -/
import Derived.Test.YtfdgehlobbeomaaGreatDoorRows
import Derived.Test.YtfdgehlobbeomaaGreatDoorCards
import Derived.Test.YtfdgehlobbeomaaGreatDoorTie
import Derived.Test.YtfdgehlobbeomaaGreatDoorQM03
import Derived.Test.YtfdgehlobbeomaaGreatDoorQM31
import Derived.OpenShut
import Derived.ShutString
namespace Go.Proofs.YtfdgehlobbeomaaGreatDoor.fnMaps
open Go.ChangeShapes Go.WideShapes Go.ChangeAt Go.RowKit
open Go.ChangeMaps (open_string shut_string)
set_option linter.unusedVariables false

def IsRow(k:IntKind)(w:World)(a:Option Addr)(len cap:Nat)(zs:List Int):Prop:=
  (a=none∧len=0∧cap=0∧zs=[])∨
  ∃x,a=some x∧len≤cap∧cap≤maxLen∧zs.length=cap∧(∀i,i<zs.length→w.cell? (x.add i)=some (.int k (zs.getD i 0)))∧ ∀n∈zs,(Lit.int k n).wf=true

set_option maxRecDepth 100000 in
set_option maxHeartbeats 8000000 in
theorem walk (a0 : Option Addr) (len0 cap0 : Nat) (z0 : List Int) (w : World) (w0 : IsRow .u8 w a0 len0 cap0 z0) (hE : Esc w) (hM : MaxI w) :
    Calls Tryz.prog 3 #[.slice a0 len0 cap0] w fun e w' => e = .returned (.bool true) ∧ Below w.heap.size w w' := by
  have HE : Hid (Esc w) := hE
  have HMX : Hid (MaxI w) := hM
  clear hE hM
  by_cases hbig : 1048576 < (len0 : Int)
  · go_enter Tryz.func3, Tryz.ntmps3
    go_wp2_with fail
    refine (big_yes _ _ _ _ hbig).mono ?_
    rintro e w' ⟨rfl, rfl⟩
    go_wp2
    go_ret
    exact ⟨rfl, Below.refl _ _⟩
  · have hl : len0 ≤ 1048576 := by omega
    have hcode : CodeRow w.heap.size w a0 len0 := by
      rcases w0 with ⟨rfl, rfl, rfl, rfl⟩ | ⟨x, rfl, h1, h2, h3, h4, h5⟩
      · exact .inl rfl
      · by_cases h0 : len0 = 0
        · exact .inl h0
        · obtain ⟨b, off, rfl, hc⟩ := ints_at h4 (by omega)
          refine .inr ⟨b, off, rfl, World.block_lt_of_cell? w ⟨b, off + 0, none⟩ (hc 0 (by omega)), fun i hi => ?_⟩
          refine ⟨_, hc i (by omega), ?_⟩
          have hb := bounds_u8 (h5 (z0.getD i 0) (by
            rw [List.getD_eq_getElem?_getD, List.getElem?_eq_getElem (by omega)]
            exact List.getElem_mem _))
          exact hb
    have HCO : Hid (CodeRow w.heap.size w a0 len0) := hcode
    clear w0 hcode
    go_enter Tryz.func3, Tryz.ntmps3
    go_wp2_with fail
    refine (big_no _ _ _ _ (by omega)).mono ?_
    rintro e w' ⟨rfl, rfl⟩
    go_wp2_with fail
    refine (drawMap _ _ _ _ hl HCO.out).mono ?_
    rintro e w0 ⟨⟨b, l, v, ⟨hl4, hgood⟩, rfl, o0⟩, b0⟩
    have HG : Hid (∀ x ∈ l, EntGood x) := hgood
    obtain ⟨vo, vc, rfl⟩ := (EntRow.of_own' o0).slice
    have HR0 : Hid (EntRow w0 (.slice vo l.length vc) l) := EntRow.of_own' o0
    clear o0 hgood HCO
    obtain ⟨U, hU⟩ : ∃ U, U = w0.alloc (.cells #[.bool b, .slice vo l.length vc] 26) := ⟨_, rfl⟩
    have bU : Below w0.heap.size w0 U := by rw [hU]; exact (Below.refl _ _).alloc (Nat.le_refl _) _
    have AU : BAt U w0.heap.size [.bool b, .slice vo l.length vc] := by rw [hU]; exact BAt.new w0 #[.bool b, .slice vo l.length vc] _
    have HRU : Hid (EntRow U (.slice vo l.length vc) l) := HR0.out.below bU
    have BU := b0.trans (bU.mono b0.size)
    have d0 := AU.1 0 _ rfl
    have d1 := AU.1 1 _ rfl
    have CS := hidB (implSitemapText b l (.slice vo l.length vc) U (sum_ents (nice_of HG.out).2 hl4) (HE.out.later BU) HRU.out)
    go_upto_region 4 with fail
    rw [← hU]
    clear hU bU HR0 b0
    generalize w0.heap.size = D0 at *
    go_wp2_with fail
    refine CS.out.mono ?_
    rintro e w1 ⟨rfl, b1⟩
    have A1 := AU.below b1
    have HR1 : Hid (EntRow w1 (.slice vo l.length vc) l) := HRU.out.below b1
    have B1 := BU.trans (b1.mono BU.size)
    have CP := hidB (parseBack b l w1 (HE.out.later B1) (max_below HMX.out B1) hl4 HG.out)
    have hml : (⟨(mapT b l).toArray⟩ : ByteArray).size ≤ 2000 := by show (mapT b l).toArray.size ≤ _; rw [List.size_toArray]; exact map_len (nice_of HG.out).2 hl4
    have HTD : Hid ((⟨(mapT b l).toArray⟩ : ByteArray).data.toList = mapT b l) := rfl
    clear CS BU AU d0 d1 HRU b1
    generalize (⟨(mapT b l).toArray⟩ : ByteArray) = T at *
    go_wp2_with fail
    refine CP.out.mono ?_
    rintro e w2 ⟨⟨xo, xc, rfl, o2⟩, b2⟩
    have A2 := A1.below b2
    have HR2 : Hid (EntRow w2 (.slice vo l.length vc) l) := HR1.out.below b2
    have HX2 : Hid (EntRow w2 (.slice xo l.length xc) l) := EntRow.of_own' o2
    have B2 := B1.trans (b2.mono B1.size)
    clear CP o2 b2 A1 HR1 B1
    obtain ⟨V, hV⟩ : ∃ V, V = w2.alloc (.cells #[.bool b, .slice xo l.length xc] 26) := ⟨_, rfl⟩
    have bV : Below w2.heap.size w2 V := by rw [hV]; exact (Below.refl _ _).alloc (Nat.le_refl _) _
    have XV : BAt V w2.heap.size [.bool b, .slice xo l.length xc] := by rw [hV]; exact BAt.new w2 #[.bool b, .slice xo l.length xc] _
    have AV := A2.below bV
    have HRV : Hid (EntRow V (.slice vo l.length vc) l) := HR2.out.below bV
    have HXV : Hid (EntRow V (.slice xo l.length xc) l) := HX2.out.below bV
    have BV := B2.trans (bV.mono B2.size)
    go_upto_region 6 with fail
    rw [← hV]
    clear hV bV A2 HR2 HX2 B2
    generalize w2.heap.size = D2 at *
    have HTA : Hid ((⟨#[60, 63, 120, 109, 108, 63, 62, 10, 60, 33, 45, 45, 32, 97, 32, 45, 45, 62, 32]⟩ ++ T ++ ⟨#[10]⟩ : ByteArray).data.toList = aheadX ++ mapT b l ++ [10]) := by
      show _ = _
      rw [app_dataP, app_dataP, HTD.out]
      rfl
    have CP := hidB (parseAhead b l (⟨#[60, 63, 120, 109, 108, 63, 62, 10, 60, 33, 45, 45, 32, 97, 32, 45, 45, 62, 32]⟩ ++ T ++ ⟨#[10]⟩) V HTA.out (HE.out.later BV) (max_below HMX.out BV) hl4 HG.out)
    clear HTA
    have hz19 : (⟨#[60, 63, 120, 109, 108, 63, 62, 10, 60, 33, 45, 45, 32, 97, 32, 45, 45, 62, 32]⟩ : ByteArray).size = 19 := rfl
    have hz1 : (⟨#[10]⟩ : ByteArray).size = 1 := rfl
    go_wp2_with fail
    refine CP.out.mono ?_
    rintro e w3 ⟨⟨yo, yc, rfl, o3⟩, b3⟩
    have A3 := AV.below b3
    have X3 := XV.below b3
    have HR3 : Hid (EntRow w3 (.slice vo l.length vc) l) := HRV.out.below b3
    have HX3 : Hid (EntRow w3 (.slice xo l.length xc) l) := HXV.out.below b3
    have HY3 : Hid (EntRow w3 (.slice yo l.length yc) l) := EntRow.of_own' o3
    have B3 := BV.trans (b3.mono BV.size)
    clear CP o3 b3 AV XV HRV HXV BV hz19 hz1
    obtain ⟨Z, hZ⟩ : ∃ Z, Z = w3.alloc (.cells #[.bool b, .slice yo l.length yc] 26) := ⟨_, rfl⟩
    have bZ : Below w3.heap.size w3 Z := by rw [hZ]; exact (Below.refl _ _).alloc (Nat.le_refl _) _
    have YZ : BAt Z w3.heap.size [.bool b, .slice yo l.length yc] := by rw [hZ]; exact BAt.new w3 #[.bool b, .slice yo l.length yc] _
    have AZ := A3.below bZ
    have XZ := X3.below bZ
    have HRZ : Hid (EntRow Z (.slice vo l.length vc) l) := HR3.out.below bZ
    have HXZ : Hid (EntRow Z (.slice xo l.length xc) l) := HX3.out.below bZ
    have HYZ : Hid (EntRow Z (.slice yo l.length yc) l) := HY3.out.below bZ
    have BZ := B3.trans (bZ.mono B3.size)
    go_upto_region 7 with fail
    rw [← hZ]
    clear hZ bZ A3 X3 HR3 HX3 HY3 B3
    generalize w3.heap.size = D3 at *
    have a0 := AZ.1 0 _ rfl
    have a1 := AZ.1 1 _ rfl
    have x0 := XZ.1 0 _ rfl
    have x1 := XZ.1 1 _ rfl
    have y1 := YZ.1 1 _ rfl
    go_wp2_with fail
    have HAZ := hidB AZ
    have HXC := hidB XZ
    have HYC := hidB YZ
    clear a0 a1 x0 x1 y1 AZ XZ YZ
    go_loopw [9] (fun i wr => ∃ k : Nat, k ≤ l.length ∧ i = .int .i64 k ∧ Below Z.heap.size Z wr) (fun i _ => l.length - (intOf i).toNat)
    case atStart => exact ⟨0, Nat.zero_le _, rfl, Below.refl _ _⟩
    case round =>
      obtain ⟨k, hk, rfl, hbel⟩ := hrel
      have a1 := (HAZ.out.below hbel).1 1 _ rfl
      by_cases hlt : k < l.length
      · have hki : (k : Int) < l.length := by omega
        have x1 := (HXC.out.below hbel).1 1 _ rfl
        have y1 := (HYC.out.below hbel).1 1 _ rfl
        obtain ⟨g0, o0, e0, p0, p1⟩ := (HRZ.out.below hbel).at hlt
        obtain ⟨g1, o1, e1, q0, q1⟩ := (HXZ.out.below hbel).at hlt
        obtain ⟨g2, o2, e2, r0, r1⟩ := (HYZ.out.below hbel).at hlt
        subst e0 e1 e2
        generalize (l.getD k ev0).s = es at *
        generalize (l.getD k ev0).k = ek at *
        go_upto_region 12 with fail
        refine wp_region_held_drew (S := fun W => W.cell? ⟨D0, 1, none⟩ = some (.slice (some ⟨g0, o0, none⟩) l.length vc) ∧ W.cell? ⟨D2, 1, none⟩ = some (.slice (some ⟨g1, o1, none⟩) l.length xc) ∧ W.cell? ⟨D3, 1, none⟩ = some (.slice (some ⟨g2, o2, none⟩) l.length yc) ∧ W.cell? ⟨g0, o0 + k * 2, none⟩ = some (.string es) ∧ W.cell? ⟨g0, o0 + k * 2 + 1, none⟩ = some (.int .i64 ek) ∧ W.cell? ⟨g1, o1 + k * 2, none⟩ = some (.string es) ∧ W.cell? ⟨g1, o1 + k * 2 + 1, none⟩ = some (.int .i64 ek) ∧ W.cell? ⟨g2, o2 + k * 2, none⟩ = some (.string es) ∧ W.cell? ⟨g2, o2 + k * 2 + 1, none⟩ = some (.int .i64 ek)) (by kernel_rfl) ⟨a1, x1, y1, p0, p1, q0, q1, r0, r1⟩ (fun s0 => ?_)
        clear a1 x1 y1 p0 p1 q0 q1 r0 r1 HAZ HXC HYC HRZ HXZ HYZ
        refine wpAnyH_take (i := 0) (v := ?_) rfl (by kernel_rfl) (by kernel_rfl) (by kernel_rfl) (fun _ _ _ h => h) (Or.inl ⟨by rfl, fun W hW => ?_⟩) s0 ?_
        rotate_left
        · obtain ⟨i1, i2, i3, i4, i5, i6, i7, i8, i9⟩ := hW
          go_simp
          try with_reducible rfl
        simp only [Act.put, List.getElem_toArray, List.getElem_cons_zero, List.setIfInBounds_toArray, List.set_cons_zero, List.set_cons_succ]
        refine wpAnyH_take (i := 1) (v := ?_) rfl (by kernel_rfl) (by kernel_rfl) (by kernel_rfl) (fun _ _ _ h => h) (Or.inl ⟨by rfl, fun W hW => ?_⟩) s0 ?_
        rotate_left
        · obtain ⟨i1, i2, i3, i4, i5, i6, i7, i8, i9⟩ := hW
          go_simp
          try with_reducible rfl
        simp only [Act.put, List.getElem_toArray, List.getElem_cons_zero, List.getElem_cons_succ, List.setIfInBounds_toArray, List.set_cons_zero, List.set_cons_succ]
        refine wpAnyH_take (i := 2) (v := ?_) rfl (by kernel_rfl) (by kernel_rfl) (by kernel_rfl) (fun _ _ _ h => h) (Or.inl ⟨by rfl, fun W hW => ?_⟩) s0 ?_
        rotate_left
        · obtain ⟨i1, i2, i3, i4, i5, i6, i7, i8, i9⟩ := hW
          go_simp
          try with_reducible rfl
        simp only [Act.put, List.getElem_toArray, List.getElem_cons_zero, List.getElem_cons_succ, List.setIfInBounds_toArray, List.set_cons_zero, List.set_cons_succ]
        refine wpAnyH_take (i := 3) (v := ?_) rfl (by kernel_rfl) (by kernel_rfl) (by kernel_rfl) (fun _ _ _ h => h) (Or.inl ⟨by rfl, fun W hW => ?_⟩) s0 ?_
        rotate_left
        · obtain ⟨i1, i2, i3, i4, i5, i6, i7, i8, i9⟩ := hW
          go_simp
          try with_reducible rfl
        simp only [Act.put, List.getElem_toArray, List.getElem_cons_zero, List.getElem_cons_succ, List.setIfInBounds_toArray, List.set_cons_zero, List.set_cons_succ]
        refine wpAnyH_take (i := 4) (v := ?_) rfl (by kernel_rfl) (by kernel_rfl) (by kernel_rfl) (fun _ _ _ h => h) (Or.inl ⟨by rfl, fun W hW => ?_⟩) s0 ?_
        rotate_left
        · obtain ⟨i1, i2, i3, i4, i5, i6, i7, i8, i9⟩ := hW
          go_simp
          try with_reducible rfl
        simp only [Act.put, List.getElem_toArray, List.getElem_cons_zero, List.getElem_cons_succ, List.setIfInBounds_toArray, List.set_cons_zero, List.set_cons_succ]
        refine wpAnyH_take (i := 5) (v := ?_) rfl (by kernel_rfl) (by kernel_rfl) (by kernel_rfl) (fun _ _ _ h => h) (Or.inl ⟨by rfl, fun W hW => ?_⟩) s0 ?_
        rotate_left
        · obtain ⟨i1, i2, i3, i4, i5, i6, i7, i8, i9⟩ := hW
          go_simp
          try with_reducible rfl
        simp only [Act.put, List.getElem_toArray, List.getElem_cons_zero, List.getElem_cons_succ, List.setIfInBounds_toArray, List.set_cons_zero, List.set_cons_succ]
        refine wpAnyH_take (i := 6) (v := ?_) rfl (by kernel_rfl) (by kernel_rfl) (by kernel_rfl) (fun _ _ _ h => h) (Or.inl ⟨by rfl, fun W hW => ?_⟩) s0 ?_
        rotate_left
        · obtain ⟨i1, i2, i3, i4, i5, i6, i7, i8, i9⟩ := hW
          go_simp
          try with_reducible rfl
        simp only [Act.put, List.getElem_toArray, List.getElem_cons_zero, List.getElem_cons_succ, List.setIfInBounds_toArray, List.set_cons_zero, List.set_cons_succ]
        refine wpAnyH_take (i := 7) (v := ?_) rfl (by kernel_rfl) (by kernel_rfl) (by kernel_rfl) (fun _ _ _ h => h) (Or.inl ⟨by rfl, fun W hW => ?_⟩) s0 ?_
        rotate_left
        · obtain ⟨i1, i2, i3, i4, i5, i6, i7, i8, i9⟩ := hW
          go_simp
          try with_reducible rfl
        simp only [Act.put, List.getElem_toArray, List.getElem_cons_zero, List.getElem_cons_succ, List.setIfInBounds_toArray, List.set_cons_zero, List.set_cons_succ]
        refine wpAnyH_take (i := 8) (v := ?_) rfl (by kernel_rfl) (by kernel_rfl) (by kernel_rfl) (fun _ _ _ h => h) (Or.inl ⟨by rfl, fun W hW => ?_⟩) s0 ?_
        rotate_left
        · obtain ⟨i1, i2, i3, i4, i5, i6, i7, i8, i9⟩ := hW
          go_simp
          try with_reducible rfl
        simp only [Act.put, List.getElem_toArray, List.getElem_cons_zero, List.getElem_cons_succ, List.setIfInBounds_toArray, List.set_cons_zero, List.set_cons_succ]
        refine wpAnyH_take (i := 9) (v := ?_) rfl (by kernel_rfl) (by kernel_rfl) (by kernel_rfl) (fun _ _ _ h => h) (Or.inl ⟨by rfl, fun W hW => ?_⟩) s0 ?_
        rotate_left
        · obtain ⟨i1, i2, i3, i4, i5, i6, i7, i8, i9⟩ := hW
          go_simp
          try with_reducible rfl
        simp only [Act.put, List.getElem_toArray, List.getElem_cons_zero, List.getElem_cons_succ, List.setIfInBounds_toArray, List.set_cons_zero, List.set_cons_succ]
        refine wpAnyH_take (i := 10) (v := ?_) rfl (by kernel_rfl) (by kernel_rfl) (by kernel_rfl) (fun _ _ _ h => h) (Or.inl ⟨by rfl, fun W hW => ?_⟩) s0 ?_
        rotate_left
        · obtain ⟨i1, i2, i3, i4, i5, i6, i7, i8, i9⟩ := hW
          go_simp
          try with_reducible rfl
        simp only [Act.put, List.getElem_toArray, List.getElem_cons_zero, List.getElem_cons_succ, List.setIfInBounds_toArray, List.set_cons_zero, List.set_cons_succ]
        refine wpAnyH_take (i := 11) (v := ?_) rfl (by kernel_rfl) (by kernel_rfl) (by kernel_rfl) (fun _ _ _ h => h) (Or.inl ⟨by rfl, fun W hW => ?_⟩) s0 ?_
        rotate_left
        · obtain ⟨i1, i2, i3, i4, i5, i6, i7, i8, i9⟩ := hW
          go_simp
          try with_reducible rfl
        simp only [Act.put, List.getElem_toArray, List.getElem_cons_zero, List.getElem_cons_succ, List.setIfInBounds_toArray, List.set_cons_zero, List.set_cons_succ]
        refine wpAnyH_take (i := 12) (v := ?_) rfl (by kernel_rfl) (by kernel_rfl) (by kernel_rfl) (fun _ _ _ h => h) (Or.inl ⟨by rfl, fun W hW => ?_⟩) s0 ?_
        rotate_left
        · obtain ⟨i1, i2, i3, i4, i5, i6, i7, i8, i9⟩ := hW
          go_simp
          try with_reducible rfl
        simp only [Act.put, List.getElem_toArray, List.getElem_cons_zero, List.getElem_cons_succ, List.setIfInBounds_toArray, List.set_cons_zero, List.set_cons_succ]
        refine wpAnyH_take (i := 13) (v := ?_) rfl (by kernel_rfl) (by kernel_rfl) (by kernel_rfl) (fun _ _ _ h => h) (Or.inl ⟨by rfl, fun W hW => ?_⟩) s0 ?_
        rotate_left
        · obtain ⟨i1, i2, i3, i4, i5, i6, i7, i8, i9⟩ := hW
          go_simp
          try with_reducible rfl
        simp only [Act.put, List.getElem_toArray, List.getElem_cons_zero, List.getElem_cons_succ, List.setIfInBounds_toArray, List.set_cons_zero, List.set_cons_succ]
        refine wpAnyH_take (i := 14) (v := ?_) rfl (by kernel_rfl) (by kernel_rfl) (by kernel_rfl) (fun _ _ _ h => h) (Or.inl ⟨by rfl, fun W hW => ?_⟩) s0 ?_
        rotate_left
        · obtain ⟨i1, i2, i3, i4, i5, i6, i7, i8, i9⟩ := hW
          go_simp
          try with_reducible rfl
        simp only [Act.put, List.getElem_toArray, List.getElem_cons_zero, List.getElem_cons_succ, List.setIfInBounds_toArray, List.set_cons_zero, List.set_cons_succ]
        refine wpAnyH_take (i := 15) (v := ?_) rfl (by kernel_rfl) (by kernel_rfl) (by kernel_rfl) (fun _ _ _ h => h) (Or.inl ⟨by rfl, fun W hW => ?_⟩) s0 ?_
        rotate_left
        · obtain ⟨i1, i2, i3, i4, i5, i6, i7, i8, i9⟩ := hW
          go_simp
          try with_reducible rfl
        simp only [Act.put, List.getElem_toArray, List.getElem_cons_zero, List.getElem_cons_succ, List.setIfInBounds_toArray, List.set_cons_zero, List.set_cons_succ]
        refine wpAnyH_take (i := 16) (v := ?_) rfl (by kernel_rfl) (by kernel_rfl) (by kernel_rfl) (fun _ _ _ h => h) (Or.inl ⟨by rfl, fun W hW => ?_⟩) s0 ?_
        rotate_left
        · obtain ⟨i1, i2, i3, i4, i5, i6, i7, i8, i9⟩ := hW
          go_simp
          try with_reducible rfl
        simp only [Act.put, List.getElem_toArray, List.getElem_cons_zero, List.getElem_cons_succ, List.setIfInBounds_toArray, List.set_cons_zero, List.set_cons_succ]
        refine wpAnyH_take (i := 17) (v := ?_) rfl (by kernel_rfl) (by kernel_rfl) (by kernel_rfl) (fun _ _ _ h => h) (Or.inl ⟨by rfl, fun W hW => ?_⟩) s0 ?_
        rotate_left
        · obtain ⟨i1, i2, i3, i4, i5, i6, i7, i8, i9⟩ := hW
          go_simp
          try with_reducible rfl
        simp only [Act.put, List.getElem_toArray, List.getElem_cons_zero, List.getElem_cons_succ, List.setIfInBounds_toArray, List.set_cons_zero, List.set_cons_succ]
        refine wpAnyH_take (i := 18) (v := ?_) rfl (by kernel_rfl) (by kernel_rfl) (by kernel_rfl) (fun _ _ _ h => h) (Or.inl ⟨by rfl, fun W hW => ?_⟩) s0 ?_
        rotate_left
        · obtain ⟨i1, i2, i3, i4, i5, i6, i7, i8, i9⟩ := hW
          go_simp
          try with_reducible rfl
        simp only [Act.put, List.getElem_toArray, List.getElem_cons_zero, List.getElem_cons_succ, List.setIfInBounds_toArray, List.set_cons_zero, List.set_cons_succ]
        refine wpAnyH_take (i := 19) (v := ?_) rfl (by kernel_rfl) (by kernel_rfl) (by kernel_rfl) (fun _ _ _ h => h) (Or.inl ⟨by rfl, fun W hW => ?_⟩) s0 ?_
        rotate_left
        · obtain ⟨i1, i2, i3, i4, i5, i6, i7, i8, i9⟩ := hW
          go_simp
          try with_reducible rfl
        simp only [Act.put, List.getElem_toArray, List.getElem_cons_zero, List.getElem_cons_succ, List.setIfInBounds_toArray, List.set_cons_zero, List.set_cons_succ]
        refine wpAnyH_take (i := 20) (v := ?_) rfl (by kernel_rfl) (by kernel_rfl) (by kernel_rfl) (fun _ _ _ h => h) (Or.inl ⟨by rfl, fun W hW => ?_⟩) s0 ?_
        rotate_left
        · obtain ⟨i1, i2, i3, i4, i5, i6, i7, i8, i9⟩ := hW
          go_simp
          try with_reducible rfl
        simp only [Act.put, List.getElem_toArray, List.getElem_cons_zero, List.getElem_cons_succ, List.setIfInBounds_toArray, List.set_cons_zero, List.set_cons_succ]
        refine wpAnyH_take (i := 21) (v := ?_) rfl (by kernel_rfl) (by kernel_rfl) (by kernel_rfl) (fun _ _ _ h => h) (Or.inl ⟨by rfl, fun W hW => ?_⟩) s0 ?_
        rotate_left
        · obtain ⟨i1, i2, i3, i4, i5, i6, i7, i8, i9⟩ := hW
          go_simp
          try with_reducible rfl
        simp only [Act.put, List.getElem_toArray, List.getElem_cons_zero, List.getElem_cons_succ, List.setIfInBounds_toArray, List.set_cons_zero, List.set_cons_succ]
        refine wpAnyH_take (i := 22) (v := ?_) rfl (by kernel_rfl) (by kernel_rfl) (by kernel_rfl) (fun _ _ _ h => h) (Or.inl ⟨by rfl, fun W hW => ?_⟩) s0 ?_
        rotate_left
        · obtain ⟨i1, i2, i3, i4, i5, i6, i7, i8, i9⟩ := hW
          go_simp
          try with_reducible rfl
        simp only [Act.put, List.getElem_toArray, List.getElem_cons_zero, List.getElem_cons_succ, List.setIfInBounds_toArray, List.set_cons_zero, List.set_cons_succ]
        refine wpAnyH_take (i := 23) (v := ?_) rfl (by kernel_rfl) (by kernel_rfl) (by kernel_rfl) (fun _ _ _ h => h) (Or.inl ⟨by rfl, fun W hW => ?_⟩) s0 ?_
        rotate_left
        · obtain ⟨i1, i2, i3, i4, i5, i6, i7, i8, i9⟩ := hW
          go_simp
          try with_reducible rfl
        simp only [Act.put, List.getElem_toArray, List.getElem_cons_zero, List.getElem_cons_succ, List.setIfInBounds_toArray, List.set_cons_zero, List.set_cons_succ]
        refine wpAnyH_done (by kernel_rfl) ?_ _
        go_wp2_with fail
        go_roundw
        case rel => exact ⟨k + 1, by omega, by go_num, hbel.drew⟩
        case measure => simp [intOf] <;> omega
      · have hki : ¬ (k : Int) < l.length := by omega
        go_wp2_with fail
        go_ret
        exact ⟨rfl, BZ.trans (hbel.mono BZ.size)⟩

set_option maxRecDepth 100000 in
theorem contract (H : Type) (enc : TypeId × Value → H) (W : World) (base : Nat) (args : Array Value) (ds gs : List (DataW H)) (before : List MemPlace)
    (hval : ∀ (j : Nat) t v, Tryz.f3.params[j]? = some t → args[j]? = some v → Value.okWide Tryz.prog W .any base t v)
    (hW : DataW.Whole enc Tryz.prog Tryz.f3.params.toList Rows.fnMapsSpec.vars false W args.toList ds gs before) (hL : laidMet Tryz.prog laidEsc3 W) (hSh : W.ShapedOpen Tryz.prog) :
    Calls Tryz.prog 3 args W fun e W' => ∃ v, e = .returned v ∧ Rows.fnMapsSpec.post enc Tryz.prog Tryz.f3 false true false false W args v W' := by
  have hW' := hW
  obtain ⟨p, q, hA0, hV, rfl, hfz, hnd⟩ := hW
  have hA : DataW.TrodAll enc Tryz.prog W 0 (fun _ => true) true Tryz.f3.params.toList args.toList ds p := hA0
  rw [Tryz.params3] at hA hval
  obtain ⟨v0, vs0, d0, ds0, p0, q0, hargs, rfl, rfl, h0, r0⟩ := trodAll_cons hA
  obtain ⟨rfl, rfl, rfl⟩ := trodAll_nil r0
  obtain rfl : args = #[v0] := by cases args; simp_all
  have hV2 : DataW.TrodVars enc Tryz.prog W (fun _ => true) ["loop.example/g00191/impl.escapes"] gs q := hV
  obtain ⟨g1, rfl⟩ := vars_one hV2
  obtain ⟨a0, len0, cap0, rfl⟩ := okWide_slice Tryz.underlying22 (hval 0 22 v0 rfl rfl)
  have k0 := h0
  have lt0 : ∀ x ∈ p0, x.block < W.heap.size := by obtain ⟨m, hm⟩ := k0; exact DataW.trod_lt m _ _ _ hm
  obtain ⟨z0, w0⟩ : ∃ zs, IsRow .u8 W a0 len0 cap0 zs := by
    obtain ⟨fuel, hf⟩ := h0
    rcases open_ints Tryz.underlying22 Tryz.underlying5 (by kernel_rfl) hf with ⟨hcs, _⟩ | ⟨x, l, c, zs, hcs, _, hl, hm, hz, _, hcell, hwz⟩
    · simp [Value.cells] at hcs
      obtain ⟨rfl, rfl, rfl⟩ := hcs
      exact ⟨[], .inl ⟨rfl, rfl, rfl, rfl⟩⟩
    · simp [Value.cells] at hcs
      obtain ⟨rfl, rfl, rfl⟩ := hcs
      exact ⟨zs, .inr ⟨_, rfl, hl, hm, by simpa using hz, hcell, hwz⟩⟩
  clear hA0
  refine (walk a0 len0 cap0 z0 W w0 (laid_esc3 hL) (max_shaped hSh)).mono fun e W' ⟨he, bel⟩ => ?_
  subst he
  exact ⟨_, rfl, _, _, _, [], _, _, hW', trodAll_mk1 (shut_bool Tryz.underlying4 _), (trodAll_cons_mk (Below.trod laidOutMarks (by kernel_rfl) (of_decide_eq_true (by kernel_rfl)) k0 bel lt0) trodAll_mk0), bel.trodVars laidOutMarks (by kernel_rfl) hV, bel.frame _, fun h => by cases h⟩

theorem witness_row(os:Os){H:Type}(enc:TypeId×Value→H):
    (OpenSpec.ofChange Rows.fnMapsSpec).preRow enc Tryz.prog Tryz.f3 Rows.fnMapsRow.domain false laidEsc3 (({World.holding Tryz.prog os ⟨#[],#[],[]⟩with heap:=esc3Heap (World.holding Tryz.prog os ⟨#[],#[],[]⟩).heap}:World).forCall (fun _ _=>0) ⟨#[],#[.slice none 0 0],[]⟩).memory #[.slice none 0 0]:=by
  have hw:(DataW.whole enc Tryz.prog (({World.holding Tryz.prog os ⟨#[],#[],[]⟩with heap:=esc3Heap (World.holding Tryz.prog os ⟨#[],#[],[]⟩).heap}:World).forCall (fun _ _=>0) ⟨#[],#[.slice none 0 0],[]⟩).memory Tryz.f3.params.toList Rows.fnMapsSpec.vars false (#[.slice none 0 0]:Array Value).toList 8).map (fun x=>(x.1,x.2.1))=
      some ([.nil],[Rows.laid_loop_example_g00191_impl_escapes]):=by kernel_rfl
  obtain ⟨⟨x1,x2,x3⟩,hx,hx1⟩:=Option.map_eq_some_iff.1 hw
  simp only[Prod.mk.injEq]at hx1
  obtain ⟨rfl,rfl⟩:=hx1
  exact OpenSpec.preRow_of_cond 8 hx (by kernel_rfl) (fun k hk=>by cases hk) (by kernel_rfl) (esc3_met os _)

set_option maxRecDepth 100000 in
set_option maxHeartbeats 2000000 in
theorem lifted(os:Os)(started:os.Started)(H:Type)(enc:TypeId×Value→H)(F:Stop.Interp):
    ReturnsInHanded {} Tryz.checked os 3 .any ((OpenSpec.ofChange Rows.fnMapsSpec).preRow enc Tryz.prog Tryz.f3 Rows.fnMapsRow.domain false laidEsc3) (((OpenSpec.ofChange Rows.fnMapsSpec).at F).post enc Tryz.prog Tryz.f3 false true false false):=by
  refine returnsInHanded_of_row (C:=Tryz.checked) (s:=OpenSpec.ofChange Rows.fnMapsSpec) ownMarks started (by kernel_rfl) Tryz.func3
    (witness_row_atRef (enc:=enc) (C:=Tryz.checked) false ({World.holding Tryz.prog os ⟨#[],#[],[]⟩with heap:=esc3Heap (World.holding Tryz.prog os ⟨#[],#[],[]⟩).heap}) #[.slice none 0 0] rfl (by kernel_rfl) (by kernel_rfl) (by kernel_rfl) (witness_row os enc)) ?_
  intro W base args ds gs before hval hW _ _ _ hL hSh _
  exact contract H enc W base args ds gs before hval hW hL hSh

theorem said:Rows.FnMapsSaid:=
  OpenClaim.holds_of_cond 3 Tryz.f3 rfl rfl rfl rfl rfl rfl rfl ⟨rfl,rfl,rfl,rfl,rfl⟩ rfl rfl rfl rfl rfl (by kernel_rfl) Tryz.func3 (by kernel_rfl)
    (of_decide_eq_true (by kernel_rfl)) (by unfold Func.isWrapper;first|(rw[if_pos (by decide+kernel)];kernel_rfl)|(rw[if_neg (by decide+kernel)];exact ⟨rfl,rfl⟩))
    (fun os started H enc _ F=>by rw[OpenClaim.pre_eq_preRow];exact lifted os started H enc F)

theorem plain(f:FuncId)(fn:Func)(hf:Tryz.pinned.checked.prog.funcNamed "loop.example/g00191/laws.FnMaps" =some f)(hfn:Tryz.pinned.checked.prog.funcs[f]? =some fn):
    true=Tryz.pinned.checked.prog.looks []∧ ∀(j:Nat) t,fn.params[j]? =some t→Tryz.pinned.checked.prog.wantsStandIn t=false:=by
  obtain rfl:f=3:=Option.some.inj ((show Tryz.prog.funcNamed "loop.example/g00191/laws.FnMaps" =some 3 by kernel_rfl).symm.trans hf)|>.symm
  obtain rfl:fn=Tryz.f3:=(Option.some.inj (Tryz.func3.symm.trans hfn)).symm
  refine ⟨by kernel_rfl,fun j t ht=> ?_⟩
  rw[Tryz.params3]at ht
  obtain rfl:t=22:=by simpa using Array.mem_of_getElem? ht
  exact (show Tryz.prog.wantsStandIn 22=false by kernel_rfl)

theorem card:Rows.FnMapsCardSaid:=
  Claim7.holds_tied_plain_at .later [] _ _ _ _ said (fun _ h=>by cases h) (by kernel_rfl) (fun _ h=>by cases h) fnMaps_row_tie rfl ⟨rfl,rfl⟩ (by kernel_rfl) rfl plain (by kernel_rfl)
end Go.Proofs.YtfdgehlobbeomaaGreatDoor.fnMaps

namespace Go.Proofs.YtfdgehlobbeomaaGreatDoor
theorem fnMaps_holds:Rows.FnMapsCardSaid:=fnMaps.card
#print axioms fnMaps_holds
end Go.Proofs.YtfdgehlobbeomaaGreatDoor
