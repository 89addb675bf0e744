/- A range over a function value that never ends of itself, in a body that leaves it: a law for such a loop, of no program. -/
import Derived.RangeFuncNested
import Derived.RangeFuncBound
import Derived.RangeFuncCalls
import Derived.RangeFuncLeaves
import Derived.Test.YtamnhegianpedaaGreatDoorBase
namespace Go.Proofs.YtamnhegianpedaaGreatDoor
open Go.RowKit

/-- How a round of the loop may be left: it goes on, or it leaves by a break or a return. -/
def RoundEnds (B : Nat) (I : Nat → World → Prop) (Ix : Code → World → Prop) (k : Nat) (W : World) : Exit → Act → World → Prop
  | .normal, _, V => KeepsFrom B W V ∧ I (k + 1) V
  | .ret, _, V => KeepsFrom B W V ∧ Ix .ret V
  | .exit id, _, V => KeepsFrom B W V ∧ Ix (.exit id) V
  | .goto _, _, _ => False
  | .panic _, _, _ => False
  | .outgrown, _, _ => False

/-- A function value that hands x 0, x 1, .. to yield until it is told to stop: if the loop's own word says that it stops below N rounds, it returns, and it was stopped. -/
def Endless (F : Fence) (n : Nat) (P : Program) (g : Nat) (lb : Array Value) (x : Nat → Value) (C : World → Prop) (N : Nat) : Prop :=
  ∀ (l : Nat) (J : Nat → World → Prop) (Jx : World → Prop) (W : World),
    (∀ k V, J k V → k < N ∧ C V) →
    (∀ k V, J k V → YieldAt F (n - 1) P l #[x k] V fun e V' => (e = .returned (.bool true) ∧ J (k + 1) V') ∨ (e = .returned (.bool false) ∧ Jx V')) →
    J 0 W →
    CallsIn F n P g (#[.func (.yield l) #[] #[]] ++ lb) W fun e V => (∃ v, e = .returned v) ∧ Jx V

/-- The two blocks that a loop lays: its record, and that of its rounds' deferred calls. -/
def LoopAt (W : World) (b : Nat) (r : Loop) : Prop := W.heap[b + 1]? = some (.loop r) ∧ W.heap[b]? = some (.deferred (some []))

theorem LoopAt.put {W : World} {b : Nat} {r : Loop} (h : LoopAt W b r) (r' : Loop) : LoopAt (W.putObj (b + 1) (.loop r')) b r' :=
  ⟨World.putObj_heap_same (Array.getElem?_eq_some_iff.1 h.1).1, (World.putObj_heap_other (by omega)).trans h.2⟩
theorem LoopAt.keeps {W V : World} {b : Nat} {r : Loop} (h : LoopAt W b r) (hk : KeepsFrom b W V) : LoopAt V b r :=
  ⟨hk.same _ _ (by omega) h.1 rfl, hk.same _ _ (Nat.le_refl _) h.2 rfl⟩
theorem OwnFrom.put {β : Type} {b : Nat} {I : β → World → Prop} (h : OwnFrom b I) {s : β} {W : World} {r : Loop} (hl : LoopAt W b r) (o : Obj) (hs : I s W) : I s (W.putObj (b + 1) o) :=
  h.putObj o hs (by omega) hl.1 rfl

/-- One round, out of the walks of its assignment and its body. -/
theorem round_of {F : Fence} {n : Nat} {P : Program} {fn : FuncId} (hfn : F.fn fn) {b : Nat} {r : Loop} {p : Tmp} (hp : r.params = #[p]) (hr : r.state = .ready) (hpe : r.pending = none) (hf : r.fn = fn) {x : Nat → Value} {a₁ : Nat → Act} {k : Nat}
    {I : Nat → World → Prop} {Ix : Code → World → Prop} (hI : OwnFrom b I) (hIx : ∀ c, OwnFrom b (fun (_ : Unit) => Ix c)) {W : World} (hi : I k W) (hl : LoopAt W b r)
    (hassign : ∀ (K : Act → World → Prop), K (a₁ k) W → r.assign.wpIn (F.inRound (b + 1)) n P (Exit.then K (fun _ _ _ => False)) { tmps := r.tmps.setIfInBounds p (x k), defers := [] } W)
    (hbody : ∀ V, I k V → r.body.wpIn (F.inRound (b + 1)) n P (RoundEnds b I Ix k V) (a₁ k) V) :
    YieldAt F n P (b + 1) #[x k] W fun e V => (e = .returned (.bool true) ∧ I (k + 1) V ∧ LoopAt V b r) ∨
      (e = .returned (.bool false) ∧ ∃ c, Ix c V ∧ LoopAt V b { r with state := .done, pending := some c }) := by
  have hy := run_yield (P := P) (args := #[x k]) hl.1 (by rw [hp]; rfl)
  rw [hp, hf] at hy
  have hz : (Array.zip #[p] #[x k]).foldl (fun (tmps : Array Value) (y : Tmp × Value) => tmps.setIfInBounds y.1 y.2) r.tmps = r.tmps.setIfInBounds p (x k) := by simp
  rw [show (Array.foldl (fun tmps (y : Tmp × Value) => match y with | (t, a) => tmps.setIfInBounds t a) r.tmps (Array.zip #[p] #[x k])) = r.tmps.setIfInBounds p (x k) from hz] at hy
  refine ⟨fn, _, r.assign, r.body, hy, roundIn_of_wpIn hfn ?_⟩
  apply hassign
  refine ⟨_, run_beginRound hl.1 hr, ?_⟩
  have hl2 : LoopAt _ b _ := hl.put { r with state := .busy }
  refine wpIn_mono (hbody _ (OwnFrom.put hI hl _ hi)) ?_
  rintro e a3 V hV
  cases e with
  | normal =>
    have hl3 := hl2.keeps hV.1
    have h4 := OwnFrom.put hI hl3 (.loop r) hV.2
    have h5 := hl3.put r
    have h6 := run_endRound (P := P) none hl3.1
    refine ⟨_, _, h6, .inl ⟨rfl, ?_⟩⟩
    have e6 : ({ r with state := LoopState.ready, pending := none } : Loop) = r := by cases r; simp at hr hpe; subst hr; subst hpe; rfl
    simp only [Option.isNone_none, if_true]
    rw [e6]
    exact ⟨h4, h5⟩
  | ret =>
    have hl3 := hl2.keeps hV.1
    exact ⟨_, _, run_endRound (P := P) (some .ret) hl3.1, .inr ⟨rfl, .ret, OwnFrom.put (hIx .ret) (s := ()) hl3 _ hV.2, hl3.put _⟩⟩
  | exit id =>
    have hl3 := hl2.keeps hV.1
    exact ⟨_, _, run_endRound (P := P) (some (.exit id)) hl3.1, .inr ⟨rfl, .exit id, OwnFrom.put (hIx (.exit id)) (s := ()) hl3 _ hV.2, hl3.put _⟩⟩
  | goto t => exact hV.elim
  | panic ch => exact hV.elim
  | outgrown => exact hV.elim

/-- The loop itself. -/
theorem wpIn_endless {F : Fence} {n : Nat} {P : Program} {g : Operand} {p : Tmp} {assign body : Code} {Q : Exit → Act → World → Prop} {a : Act} {w : World}
    (hro : F.round = none) (h1 : 1 ≤ n) {gf : Nat} {lb : Array Value} (hg : a.eval g = .func (.func gf) #[] lb) (hFg : F.fn gf) (eg : ∀ args w, (callFunc gf args).run P w = .ok (.enter gf args) w)
    {x : Nat → Value} {C : World → Prop} {N : Nat} (hit : Endless F (n - 1) P gf lb x C N)
    (I : Nat → World → Prop) (Ix : Code → World → Prop) (hI : OwnFrom w.heap.size I) (hIx : ∀ c, OwnFrom w.heap.size (fun (_ : Unit) => Ix c)) (hC : ∀ k V, I k V → k < N ∧ C V) (h0 : I 0 w) (a₁ : Nat → Act)
    (hassign : ∀ (l k : Nat) (W : World) (K : Act → World → Prop), K (a₁ k) W → assign.wpIn (F.inRound l) (n - 1 - 1) P (Exit.then K (fun _ _ _ => False)) { tmps := a.tmps.setIfInBounds p (x k), defers := [] } W)
    (hbody : ∀ (l k : Nat) (W : World), I k W → body.wpIn (F.inRound l) (n - 1 - 1) P (RoundEnds w.heap.size I Ix k W) (a₁ k) W)
    (hstop : ∀ (D : Nat) (c : Code) (W : World), w.heap.size ≤ D → Ix c W → W.heap[D]? = some (.deferred (some [])) → c.wpIn F n P Q { a with defers := { target := .collected D, args := #[] } :: a.defers } W) :
    (Code.rangeFunc g #[p] assign body).wpIn F n P Q a w := by
  refine wpIn_rangeFunc fun fn hfn => ?_
  rw [hro]
  obtain ⟨r, hr⟩ : ∃ r : Loop, r = { state := .ready, pending := none, fn, tmps := a.tmps, params := #[p], assign, body, defers := w.heap.size } := ⟨_, rfl⟩
  have hen := run_enterLoop_outer (P := P) (w := w) fn a.tmps #[p] assign body
  rw [← hr] at hen
  have hl : LoopAt ((w.alloc (.deferred (some []))).alloc (.loop r)) w.heap.size r := by
    constructor
    · have h := World.alloc_heap_new (w.alloc (.deferred (some []))) (.loop r)
      rwa [World.size_alloc] at h
    · exact (Below.heap_alloc _ _ _ (by simp)).trans (World.alloc_heap_new w _)
  have hi := hI.alloc (.loop r) (hI.alloc (.deferred (some [])) h0)
  generalize (w.alloc (.deferred (some []))).alloc (.loop r) = W1 at hen hl hi
  refine ⟨_, _, W1, { target := .fn (.func gf) lb, args := #[.func (.yield (w.heap.size + 1)) #[] #[]] }, W1, gf, #[.func (.yield (w.heap.size + 1)) #[] #[]] ++ lb, W1, hen, ?_, ?_, ?_, fun _ => h1, ?_⟩
  · simp only [resolve, hg]
    simp [go_sem]
  · intro f' hf'
    simp [Target.leads] at hf'
    subst hf'
    exact hFg
  · simp [invoke, go_sem, eg]
  refine (hit (w.heap.size + 1) (fun k V => I k V ∧ LoopAt V w.heap.size r) (fun V => ∃ c, Ix c V ∧ LoopAt V w.heap.size { r with state := .done, pending := some c }) W1 (fun k V h => hC k V h.1) ?_ ⟨hi, hl⟩).mono ?_
  · rintro k V ⟨hk, hv⟩
    refine (round_of (a₁ := a₁) hfn (by rw [hr]) (by rw [hr]) (by rw [hr]) (by rw [hr]) hI hIx hk hv ?_ ?_).mono (fun _ _ h => h)
    · rw [hr]; exact fun K hK => hassign _ k V K hK
    · rw [hr]; exact fun V hV => hbody _ k V hV
  · rintro e V ⟨⟨v, rfl⟩, c, hc, hv⟩
    exact ⟨some c, _, run_endLoop (P := P) hv.1 (by simp), hstop _ c _ (Nat.le_refl _) (OwnFrom.put (hIx c) (s := ()) hv _ hc) (hv.put _).2⟩
end Go.Proofs.YtamnhegianpedaaGreatDoor
