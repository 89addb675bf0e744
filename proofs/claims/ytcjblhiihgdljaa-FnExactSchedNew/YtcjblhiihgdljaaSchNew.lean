/- The contracts of SchedNew of both sides. -/
import Derived.Test.YtcjblhiihgdljaaRows
import Derived.Test.YtcjblhiihgdljaaSchOkAll
import Derived.Test.YtcjblhiihgdljaaSchSpec1
import Derived.Test.YtcjblhiihgdljaaSitTo
import Derived.Test.YtcjblhiihgdljaaSixAt
namespace Go.Proofs.Ytcjblhiihgdljaa
open Go.RowKit
set_option linter.unusedVariables false
set_option linter.unusedSimpArgs false

/-- New queues, or none. -/
def newB (d sp : Int) : Bool := inB d 1 1000 && inB sp 1 10000
def newD (d sp : Int) : Int := if newB d sp = true then d else 0
def newP (d sp : Int) : Int := if newB d sp = true then sp else 0
theorem new_iff (d sp : Int) : SOk d sp 0 0 [] [] ↔ newB d sp = true := by
  unfold newB
  rw [Bool.and_eq_true, inB_iff, inB_iff]
  constructor
  · intro h
    have := h.t
    omega
  · intro h
    refine ⟨by omega, by decide, by decide, fun x hx => absurd hx (List.not_mem_nil), List.Pairwise.nil, fun x hx => absurd hx (List.not_mem_nil), fun x hx => absurd hx (List.not_mem_nil), List.Pairwise.nil, List.nodup_nil, List.nodup_nil⟩
def NewR (d sp : Int) (w : World) (e : Ending) (w' : World) : Prop := e = .returned (.agg #[.int .i64 (newD d sp), .int .i64 (newP d sp), .int .i64 0, .int .i64 0, .slice none 0 0, .slice none 0 0]) ∧ Below w.heap.size w w'
set_option maxHeartbeats 8000000 in
theorem specSchedNew (d sp : Int) (w : World) : Calls Try.prog 11 #[.int .i64 d, .int .i64 sp] w fun e w' => NewR d sp w e w' := by
  obtain ⟨O, hO⟩ : ∃ O, O = w.alloc (.cells #[.int .i64 0, .int .i64 0, .int .i64 0, .int .i64 0, .slice none 0 0, .slice none 0 0] 31) := ⟨_, rfl⟩
  have bO : Below w.heap.size w O := by rw [hO]; exact (Below.refl _ _).alloc (Nat.le_refl _) _
  have AO : BAt O w.heap.size [.int .i64 0, .int .i64 0, .int .i64 0, .int .i64 0, .slice none 0 0, .slice none 0 0] := by rw [hO]; exact BAt.new w #[.int .i64 0, .int .i64 0, .int .i64 0, .int .i64 0, .slice none 0 0, .slice none 0 0] _
  have HB : Hid (newB d sp = (inB d 1 1000 && inB sp 1 10000)) := rfl
  have HDP : Hid (newB d sp = true → newD d sp = d ∧ newP d sp = sp) := fun h => ⟨if_pos h, if_pos h⟩
  have HDN : Hid (newB d sp = false → newD d sp = 0 ∧ newP d sp = 0) := fun h => ⟨if_neg (by rw [h]; decide), if_neg (by rw [h]; decide)⟩
  have D1 : Hid (∀ W, Calls Try.prog 22 #[.int .i64 d, .int .i64 1, .int .i64 1000] W fun e w' => e = .returned (.bool (inB d 1 1000)) ∧ W = w') := fun W => specIn _ _ _ W
  have D2 : Hid (∀ W, Calls Try.prog 22 #[.int .i64 sp, .int .i64 1, .int .i64 10000] W fun e w' => e = .returned (.bool (inB sp 1 10000)) ∧ W = w') := fun W => specIn _ _ _ W
  unfold NewR
  generalize newD d sp = zd at *
  generalize newP d sp = zp at *
  generalize newB d sp = nb at *
  generalize inB d 1 1000 = b1 at *
  generalize inB sp 1 10000 = b2 at *
  go_enter Try.func11, Try.ntmps11
  go_upto_region 1 with fail
  rw [← hO]
  clear hO
  cases b1 with
  | false =>
    have HR := hidM (HDN.out (by rw [HB.out]; rfl))
    clear HDN HDP HB
    go_wp2_with fail
    refine (D1.out _).mono ?_
    rintro e w1 ⟨rfl, rfl⟩
    have o0 := AO.1 0 _ rfl
    have o1 := AO.1 1 _ rfl
    have o2 := AO.1 2 _ rfl
    have o3 := AO.1 3 _ rfl
    have o4 := AO.1 4 _ rfl
    have o5 := AO.1 5 _ rfl
    have fo := AO.2.1
    go_wp2_with fail
    (try simp only [Exit.inBlock, Exit.then])
    refine bodyPost_ret (sch_result1 rfl _ _ w.heap.size _ _ _ _ _ _ rfl (six_at AO _ _ _ _ _ _)) rfl ?_
    exact ⟨by rw [HR.out.1, HR.out.2], six_below bO (Nat.le_refl _) _ _ _ _ _ _⟩
  | true =>
    go_wp2_with fail
    refine (D1.out _).mono ?_
    rintro e w1 ⟨rfl, rfl⟩
    go_wp2_with fail
    refine (D2.out _).mono ?_
    rintro e w1 ⟨rfl, rfl⟩
    have o0 := AO.1 0 _ rfl
    have o1 := AO.1 1 _ rfl
    have o2 := AO.1 2 _ rfl
    have o3 := AO.1 3 _ rfl
    have o4 := AO.1 4 _ rfl
    have o5 := AO.1 5 _ rfl
    have fo := AO.2.1
    cases b2 with
    | false =>
      have HR := hidM (HDN.out (by rw [HB.out]; rfl))
      clear HDN HDP HB
      go_wp2_with fail
      (try simp only [Exit.inBlock, Exit.then])
      refine bodyPost_ret (sch_result1 rfl _ _ w.heap.size _ _ _ _ _ _ rfl (six_at AO _ _ _ _ _ _)) rfl ?_
      exact ⟨by rw [HR.out.1, HR.out.2], six_below bO (Nat.le_refl _) _ _ _ _ _ _⟩
    | true =>
      have HR := hidM (HDP.out (by rw [HB.out]; rfl))
      clear HDN HDP HB
      go_wp2_with fail
      (try simp only [Exit.inBlock, Exit.then])
      refine bodyPost_ret (sch_result1 rfl _ _ w.heap.size _ _ _ _ _ _ rfl (six_at AO _ _ _ _ _ _)) rfl ?_
      exact ⟨by rw [HR.out.1, HR.out.2], six_below bO (Nat.le_refl _) _ _ _ _ _ _⟩
set_option maxHeartbeats 8000000 in
theorem implSchedNew (d sp : Int) (w : World) : Calls Try.prog 12 #[.int .i64 d, .int .i64 sp] w fun e w' => NewR d sp w e w' := by
  obtain ⟨O, hO⟩ : ∃ O, O = (w.alloc (.cells #[.int .i64 0, .int .i64 0, .int .i64 0, .int .i64 0, .slice none 0 0, .slice none 0 0] 31)).alloc (.cells #[.int .i64 d, .int .i64 sp, .int .i64 0, .int .i64 0, .slice none 0 0, .slice none 0 0] 31) := ⟨_, rfl⟩
  have bO : Below w.heap.size w O := by rw [hO]; exact ((Below.refl _ _).alloc (Nat.le_refl _) _).alloc (by simp) _
  have AO : BAt O w.heap.size [.int .i64 0, .int .i64 0, .int .i64 0, .int .i64 0, .slice none 0 0, .slice none 0 0] := by rw [hO]; exact (BAt.new w #[.int .i64 0, .int .i64 0, .int .i64 0, .int .i64 0, .slice none 0 0, .slice none 0 0] _).alloc _
  have AP : BAt O (w.heap.size + 1) [.int .i64 d, .int .i64 sp, .int .i64 0, .int .i64 0, .slice none 0 0, .slice none 0 0] := by
    rw [hO]
    have := BAt.new (w.alloc (.cells #[.int .i64 0, .int .i64 0, .int .i64 0, .int .i64 0, .slice none 0 0, .slice none 0 0] 31)) #[.int .i64 d, .int .i64 sp, .int .i64 0, .int .i64 0, .slice none 0 0, .slice none 0 0] 31
    rw [World.size_alloc] at this
    exact this
  have HDP : Hid (newB d sp = true → newD d sp = d ∧ newP d sp = sp) := fun h => ⟨if_pos h, if_pos h⟩
  have HDN : Hid (newB d sp = false → newD d sp = 0 ∧ newP d sp = 0) := fun h => ⟨if_neg (by rw [h]; decide), if_neg (by rw [h]; decide)⟩
  have HI : Hid (∀ b, BIs b (SOk d sp 0 0 [] []) → newB d sp = b) := fun b h => by
    have := h.iff (new_iff d sp)
    cases b with
    | true => exact this.pos
    | false =>
      cases hn : newB d sp with
      | false => rfl
      | true => exact absurd hn this.neg
  have CI := hidM (implSchedOk d sp 0 0 [] [] (.slice none 0 0) (.slice none 0 0) O ⟨by decide, fun i hi => absurd hi (Nat.not_lt_zero _)⟩ (by decide) (SitRow.nil _ _ _) (LsRow.nil _ _ _))
  unfold NewR
  generalize newD d sp = zd at *
  generalize newP d sp = zp at *
  generalize newB d sp = nb at *
  have p0 := AP.1 0 _ rfl
  have p1 := AP.1 1 _ rfl
  have p2 := AP.1 2 _ rfl
  have p3 := AP.1 3 _ rfl
  have p4 := AP.1 4 _ rfl
  have p5 := AP.1 5 _ rfl
  go_enter Try.func12, Try.ntmps12
  go_upto_region 2 with fail
  rw [← hO]
  clear hO
  go_wp2_with fail
  refine CI.out.mono ?_
  rintro e w1 ⟨b, rfl, hb, d1⟩
  have hnb := HI.out b hb
  have B1 := bO.trans (d1.mono bO.size)
  have A1 := AO.below d1
  have AP1 := AP.below d1
  clear d1 hb CI HI p0 p1 p2 p3 p4 p5
  have p0 := AP1.1 0 _ rfl
  have p1 := AP1.1 1 _ rfl
  have p2 := AP1.1 2 _ rfl
  have p3 := AP1.1 3 _ rfl
  have p4 := AP1.1 4 _ rfl
  have p5 := AP1.1 5 _ rfl
  have o0 := A1.1 0 _ rfl
  have o1 := A1.1 1 _ rfl
  have o2 := A1.1 2 _ rfl
  have o3 := A1.1 3 _ rfl
  have o4 := A1.1 4 _ rfl
  have o5 := A1.1 5 _ rfl
  have fo := A1.2.1
  cases b with
  | false =>
    have HR := hidM (HDN.out hnb)
    clear HDN HDP hnb
    go_wp2_with fail
    (try simp only [Exit.inBlock, Exit.then])
    refine bodyPost_ret (sch_result1 rfl _ _ w.heap.size _ _ _ _ _ _ rfl (six_at A1 _ _ _ _ _ _)) rfl ?_
    exact ⟨by rw [HR.out.1, HR.out.2], six_below B1 (Nat.le_refl _) _ _ _ _ _ _⟩
  | true =>
    have HR := hidM (HDP.out hnb)
    clear HDN HDP hnb
    go_wp2_with fail
    (try simp only [Exit.inBlock, Exit.then])
    refine bodyPost_ret (sch_result1 rfl _ _ w.heap.size _ _ _ _ _ _ rfl (six_at A1 _ _ _ _ _ _)) rfl ?_
    exact ⟨by rw [HR.out.1, HR.out.2], six_below B1 (Nat.le_refl _) _ _ _ _ _ _⟩
end Go.Proofs.Ytcjblhiihgdljaa
