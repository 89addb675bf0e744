/- Proved: laws.FnRelative answers true at every code and leaves it as it was; no condition. -/
import Derived.Test.YtgcbaphbiaimoaaGreatDoorRows
import Derived.Test.YtgcbaphbiaimoaaGreatDoorCards
import Derived.Test.YtgcbaphbiaimoaaGreatDoorTie
import Derived.Test.YtgcbaphbiaimoaaGreatDoorQF31
import Derived.Test.YtgcbaphbiaimoaaGreatDoorQF36
import Derived.Test.YtgcbaphbiaimoaaGreatDoorQF38
import Derived.OpenShut
import Derived.ShutString
namespace Go.Proofs.YtgcbaphbiaimoaaGreatDoor.fnRelative
open _root_.Go.Act renaming put->zj
open _root_.Go.AllReadyH renaming cons->zk,nil->zm
open _root_.List renaming getD_eq_getElem?_getD->zh,getElem?_eq_getElem->zl,getElem_cons_succ->zd,getElem_cons_zero->zc,getElem_toArray->ze,setIfInBounds_toArray->za,set_cons_succ->zg,set_cons_zero->zf
open _root_.Nat renaming zero_add->zn
open _root_.Go.World renaming holding->zi
open _root_.Go.Proofs.Tryz
open _root_.Go.Proofs.YtgcbaphbiaimoaaGreatDoor.Tryz
open Go.ChangeShapes Go.WideShapes Go.ChangeAt Go.RowKit
open Go.ChangeMaps (open_string shut_string)
set_option linter.unusedVariables false
set_option linter.unusedSimpArgs false

def Ge(k:IntKind)(w:World)(a:Option Addr)(len cap:Nat)(zs:List Int):Prop:=
  (a=none/\len=0/\cap=0/\zs=[])∨
  ∃x,a=some x/\len<=cap/\cap<=maxLen/\zs.length=cap/\(∀i,i<zs.length->w.cell? (x.add i)=some (.int k (zs.getD i 0)))/\ ∀n∈zs,(Lit.int k n).wf=true

set_option maxRecDepth 100000 in
set_option maxHeartbeats 8000000 in
theorem walk (a0 : Option Addr) (len0 cap0 : Nat) (z0 : List Int) (w : World) (w0 : Ge .u8 w a0 len0 cap0 z0) (ad : Nat -> Addr) (hT : nS ad w) :
    Calls prog 6 #[.slice a0 len0 cap0] w fun e w' => e = .returned (.bool true) /\ Below w.heap.size w w' := by
  by_cases hbig : 1048576 < (len0 : Int)
  . go_enter func6, ntmps6
    go_wp2_with fail;refine (Dj _ _ _ _ hbig).mono ?_;rintro e w' ⟨rfl, rfl⟩;go_wp2;go_ret;exact ⟨rfl, Below.refl _ _⟩
  . have hl : len0 <= 1048576 := by omega
    have hcode : eS w.heap.size w a0 len0 := by
      rcases w0 with ⟨rfl, rfl, rfl, rfl⟩ | ⟨x, rfl, h1, h2, h3, h4, h5⟩
      . exact .inl rfl
      . by_cases h0 : len0 = 0
        . exact .inl h0
        . obtain ⟨b, off, rfl, hc⟩ := ints_at h4 om
          refine .inr ⟨b, off, rfl, World.block_lt_of_cell? w ⟨b, off + 0, none⟩ (hc 0 om), fun i hi => ?_⟩;refine ⟨_, hc i om, ?_⟩;have hb := bounds_u8 (h5 (z0.getD i 0) (by
            rw [zh, zl om];exact List.getElem_mem _))
          exact hb
    have HCO : Hid (eS w.heap.size w a0 len0) := hcode;have HTA : Hid (∀ W, Below w.heap.size w W -> nS ad W) := fun W hb => hT.later hb
    clear w0 hT hcode;go_enter func6, ntmps6;go_wp2_with fail;refine (Gv _ _ _ _ om).mono ?_;rintro e w' ⟨rfl, rfl⟩;go_wp2_with fail;refine (TK _ _ _ _ hl HCO.out).mono ?_;rintro e wa ⟨s, k, n, p, nm, a, r, q, x0, x1, x2, x3, x4, x5, x6, x7, s', k', n', p', nm', a', r', q', y0, y1, y2, y3, y4, y5, y6, y7, ⟨hs, ha, hr, hb⟩, ⟨hs', ha', hr', hu⟩, rfl, ba⟩;have HB0 : Hid (uOk ⟨s, ⟨k, nm, n, [x0, x1, x2, x3, x4, x5, x6, x7]⟩, p, a, q, r⟩ = true) := hb;have HU0 : Hid (uOk ⟨s', ⟨k', nm', n', [y0, y1, y2, y3, y4, y5, y6, y7]⟩, p', a', q', r'⟩ = true) := hu;have hza : w.heap.size <= wa.heap.size := ba.size;have A1 : Hid (UAt ((wa.alloc (.cells #[.int .i64 0, .int .i64 0, .string ⟨#[]⟩, .int .i64 0, .int .i64 0, .int .i64 0, .int .i64 0, .int .i64 0, .int .i64 0, .int .i64 0, .int .i64 0, .int .i64 0, .int .i64 0, .string ⟨#[]⟩, .bool false, .string ⟨#[]⟩] 28)).alloc (.cells #[.int .i64 0, .int .i64 0, .string ⟨#[]⟩, .int .i64 0, .int .i64 0, .int .i64 0, .int .i64 0, .int .i64 0, .int .i64 0, .int .i64 0, .int .i64 0, .int .i64 0, .int .i64 0, .string ⟨#[]⟩, .bool false, .string ⟨#[]⟩] 28)) wa.heap.size aY) := (UAt.new wa _ _).below ((Below.refl _ _).alloc (Nat.le_refl _) _);have A2 : Hid (UAt ((wa.alloc (.cells #[.int .i64 0, .int .i64 0, .string ⟨#[]⟩, .int .i64 0, .int .i64 0, .int .i64 0, .int .i64 0, .int .i64 0, .int .i64 0, .int .i64 0, .int .i64 0, .int .i64 0, .int .i64 0, .string ⟨#[]⟩, .bool false, .string ⟨#[]⟩] 28)).alloc (.cells #[.int .i64 0, .int .i64 0, .string ⟨#[]⟩, .int .i64 0, .int .i64 0, .int .i64 0, .int .i64 0, .int .i64 0, .int .i64 0, .int .i64 0, .int .i64 0, .int .i64 0, .int .i64 0, .string ⟨#[]⟩, .bool false, .string ⟨#[]⟩] 28)) (wa.heap.size + 1) aY) := by
      have := UAt.new (wa.alloc (.cells #[.int .i64 0, .int .i64 0, .string ⟨#[]⟩, .int .i64 0, .int .i64 0, .int .i64 0, .int .i64 0, .int .i64 0, .int .i64 0, .int .i64 0, .int .i64 0, .int .i64 0, .int .i64 0, .string ⟨#[]⟩, .bool false, .string ⟨#[]⟩] 28)) #[.int .i64 0, .int .i64 0, .string ⟨#[]⟩, .int .i64 0, .int .i64 0, .int .i64 0, .int .i64 0, .int .i64 0, .int .i64 0, .int .i64 0, .int .i64 0, .int .i64 0, .int .i64 0, .string ⟨#[]⟩, .bool false, .string ⟨#[]⟩] 28;rw [World.size_alloc] at this;exact this
    have B1 : Hid (Below w.heap.size w ((wa.alloc (.cells #[.int .i64 0, .int .i64 0, .string ⟨#[]⟩, .int .i64 0, .int .i64 0, .int .i64 0, .int .i64 0, .int .i64 0, .int .i64 0, .int .i64 0, .int .i64 0, .int .i64 0, .int .i64 0, .string ⟨#[]⟩, .bool false, .string ⟨#[]⟩] 28)).alloc (.cells #[.int .i64 0, .int .i64 0, .string ⟨#[]⟩, .int .i64 0, .int .i64 0, .int .i64 0, .int .i64 0, .int .i64 0, .int .i64 0, .int .i64 0, .int .i64 0, .int .i64 0, .int .i64 0, .string ⟨#[]⟩, .bool false, .string ⟨#[]⟩] 28))) := (ba.alloc ba.size _).alloc (by simp; omega) _;clear ba HCO hb hu
    go_upto_region 4 with (first | (refine dI A1.out rfl (us := aC s k nm n x0 x1 x2 x3 x4 x5 x6 x7 p a q r) rfl (aS ..) rfl _ _ rfl rfl rfl ?_; intro w1 HU1 HM1) | (refine dI (HM1.1 _ _ om A2.out) rfl (us := aC s' k' nm' n' y0 y1 y2 y3 y4 y5 y6 y7 p' a' q' r') rfl (aS ..) rfl _ _ rfl rfl rfl ?_; intro w2 HU2 HM2))
    have P2 : Hid (PB2 w wa.heap.size (wa.heap.size + 1) (aC s k nm n x0 x1 x2 x3 x4 x5 x6 x7 p a q r) (aC s' k' nm' n' y0 y1 y2 y3 y4 y5 y6 y7 p' a' q' r') w2) := ⟨HM2.1 _ _ om HU1, HU2, HM2.2 _ _ om (HM1.2 _ _ om B1.out), hza, by omega⟩;clear HU1 HM1 HU2 HM2 A1 A2 B1 hza;generalize wa.heap.size = V at P2 ⊢
    try simp only [zj]
    obtain ⟨t, ⟨ht1, ht2⟩, CR⟩ := GT ad s k n p nm a r q x0 x1 x2 x3 x4 x5 x6 x7 s' k' n' p' nm' a' r' q' y0 y1 y2 y3 y4 y5 y6 y7 w2 hs om hr hs' om hr' (HTA.out _ P2.out.2.2.1) HB0.out HU0.out;have HCR := fG CR;clear CR;go_wp2_with (first | (refine bU P2.out.1 rfl rfl _ rfl rfl ?_) | (refine bU P2.out.2.1 rfl rfl _ rfl rfl ?_));refine HCR.out.mono ?_;rintro e w3 ⟨rfl, b3⟩;have P3 := fG (P2.out.later b3);have hbd := FW s' k' n' p' nm' a' r' q' y0 y1 y2 y3 y4 y5 y6 y7 hs' om hr' HU0.out;clear b3 HCR P2;have HF := fG (show t.size <= (uTx ⟨s', ⟨k', nm', n', [y0, y1, y2, y3, y4, y5, y6, y7]⟩, p', a', q', r'⟩).length /\ ((uTx ⟨s', ⟨k', nm', n', [y0, y1, y2, y3, y4, y5, y6, y7]⟩, p', a', q', r'⟩).length <= 2000 -> gB ⟨s, ⟨k, nm, n, [x0, x1, x2, x3, x4, x5, x6, x7]⟩, p, a, q, r⟩ t.data.toList = (0, ⟨s', ⟨k', nm', n', [y0, y1, y2, y3, y4, y5, y6, y7]⟩, p', a', q', r'⟩) /\ (fF ⟨s, ⟨k, nm, n, [x0, x1, x2, x3, x4, x5, x6, x7]⟩, p, a, q, r⟩ = fF ⟨s', ⟨k', nm', n', [y0, y1, y2, y3, y4, y5, y6, y7]⟩, p', a', q', r'⟩ -> (dD ⟨s', ⟨k', nm', n', [y0, y1, y2, y3, y4, y5, y6, y7]⟩, p', a', q', r'⟩).getD 1 0 ≠ 47 -> t.size <= (dD ⟨s', ⟨k', nm', n', [y0, y1, y2, y3, y4, y5, y6, y7]⟩, p', a', q', r'⟩).length)) from ⟨ht1, ht2⟩);have hts : t.size <= 4194304 := by omega
    obtain ⟨s2, k2, n2, p2, nm2, a2, r2, q2, z0, z1, z2, z3, z4, z5, z6, z7, hres⟩ := kG _ (zC ⟨s, ⟨k, nm, n, [x0, x1, x2, x3, x4, x5, x6, x7]⟩, p, a, q, r⟩ rfl t.data.toList);have CI : Hid (∀ W, Below w.heap.size w W -> Calls prog 22 #[.agg (aC s k nm n x0 x1 x2 x3 x4 x5 x6 x7 p a q r).toArray, .string t] W fun e w' => e = .returned (.tuple #[.agg (aC s2 k2 nm2 n2 z0 z1 z2 z3 z4 z5 z6 z7 p2 a2 q2 r2).toArray, .int .i64 (gB ⟨s, ⟨k, nm, n, [x0, x1, x2, x3, x4, x5, x6, x7]⟩, p, a, q, r⟩ t.data.toList).1]) /\ Below W.heap.size W w') := fun W hW => by
      have h := AA ad s k n p nm a r q x0 x1 x2 x3 x4 x5 x6 x7 t W hs om hr om (HTA.out W hW);rw [hres, iG] at h;exact h
    have HR2 : Hid ((uTx ⟨s', ⟨k', nm', n', [y0, y1, y2, y3, y4, y5, y6, y7]⟩, p', a', q', r'⟩).length <= 2000 -> (gB ⟨s, ⟨k, nm, n, [x0, x1, x2, x3, x4, x5, x6, x7]⟩, p, a, q, r⟩ t.data.toList).1 = 0 /\ aC s2 k2 nm2 n2 z0 z1 z2 z3 z4 z5 z6 z7 p2 a2 q2 r2 = (aC s' k' nm' n' y0 y1 y2 y3 y4 y5 y6 y7 p' a' q' r')) := fun h => by
      have e := (ht2 h).1;refine ⟨by rw [e], ?_⟩;have e2 : (⟨s2, ⟨k2, nm2, n2, [z0, z1, z2, z3, z4, z5, z6, z7]⟩, p2, a2, q2, r2⟩ : UV) = ⟨s', ⟨k', nm', n', [y0, y1, y2, y3, y4, y5, y6, y7]⟩, p', a', q', r'⟩ := by rw [<- hres, e]
      have := congrArg ZD e2;exact this
    have CT : Hid (∀ W, Below w.heap.size w W -> Calls prog 12 #[.agg (aC s' k' nm' n' y0 y1 y2 y3 y4 y5 y6 y7 p' a' q' r').toArray] W fun e w' => e = .returned (.string (bA (uTx ⟨s', ⟨k', nm', n', [y0, y1, y2, y3, y4, y5, y6, y7]⟩, p', a', q', r'⟩))) /\ Below W.heap.size W w') := fun W hW => by
      have hT := HTA.out W hW;exact lI s' k' n' p' nm' a' r' q' y0 y1 y2 y3 y4 y5 y6 y7 W hs' om om hT.1 hT.2.1 hT.2.2.1 hT.2.2.2.2.1
    have CG1 : Hid (∀ W, Below w.heap.size w W -> Calls prog 15 #[.agg (aC s k nm n x0 x1 x2 x3 x4 x5 x6 x7 p a q r).toArray] W fun e w' => e = .returned (.string (bA (fF ⟨s, ⟨k, nm, n, [x0, x1, x2, x3, x4, x5, x6, x7]⟩, p, a, q, r⟩))) /\ Below W.heap.size W w') := fun W hW => by
      have hT := HTA.out W hW;have := gV s k n p nm a r q x0 x1 x2 x3 x4 x5 x6 x7 W hs om om hT.1 hT.2.1 hT.2.2.1 hT.2.2.2.2.1;rw [if_pos HB0.out] at this;exact this
    have CG2 : Hid (∀ W, Below w.heap.size w W -> Calls prog 15 #[.agg (aC s' k' nm' n' y0 y1 y2 y3 y4 y5 y6 y7 p' a' q' r').toArray] W fun e w' => e = .returned (.string (bA (fF ⟨s', ⟨k', nm', n', [y0, y1, y2, y3, y4, y5, y6, y7]⟩, p', a', q', r'⟩))) /\ Below W.heap.size W w') := fun W hW => by
      have hT := HTA.out W hW;have := gV s' k' n' p' nm' a' r' q' y0 y1 y2 y3 y4 y5 y6 y7 W hs' om om hT.1 hT.2.1 hT.2.2.1 hT.2.2.2.2.1;rw [if_pos HU0.out] at this;exact this
    have CQ : Hid (∀ W, Below w.heap.size w W -> Calls prog 16 #[.agg (aC s' k' nm' n' y0 y1 y2 y3 y4 y5 y6 y7 p' a' q' r').toArray] W fun e w' => e = .returned (.string (bA (dD ⟨s', ⟨k', nm', n', [y0, y1, y2, y3, y4, y5, y6, y7]⟩, p', a', q', r'⟩))) /\ Below W.heap.size W w') := fun W hW => by
      have hT := HTA.out W hW;have := tY s' k' n' p' nm' a' r' q' y0 y1 y2 y3 y4 y5 y6 y7 W hs' om om hT.1 hT.2.1 hT.2.2.1 hT.2.2.2.2.1;rw [if_pos HU0.out] at this;exact this
    have HO : Hid (bA (fF ⟨s, ⟨k, nm, n, [x0, x1, x2, x3, x4, x5, x6, x7]⟩, p, a, q, r⟩) = bA (fF ⟨s', ⟨k', nm', n', [y0, y1, y2, y3, y4, y5, y6, y7]⟩, p', a', q', r'⟩) -> (dD ⟨s', ⟨k', nm', n', [y0, y1, y2, y3, y4, y5, y6, y7]⟩, p', a', q', r'⟩).getD 1 0 ≠ 47 -> (uTx ⟨s', ⟨k', nm', n', [y0, y1, y2, y3, y4, y5, y6, y7]⟩, p', a', q', r'⟩).length <= 2000 -> t.size <= (bA (dD ⟨s', ⟨k', nm', n', [y0, y1, y2, y3, y4, y5, y6, y7]⟩, p', a', q', r'⟩)).size) := fun h1 h2 h3 => by
      have e := congrArg (fun z : ByteArray => z.data.toList) h1;rw [mJ];exact (ht2 h3).2 e h2
    have hTT : (bA (uTx ⟨s', ⟨k', nm', n', [y0, y1, y2, y3, y4, y5, y6, y7]⟩, p', a', q', r'⟩)).size = (uTx ⟨s', ⟨k', nm', n', [y0, y1, y2, y3, y4, y5, y6, y7]⟩, p', a', q', r'⟩).length := mJ _;have hPP : (bA (dD ⟨s', ⟨k', nm', n', [y0, y1, y2, y3, y4, y5, y6, y7]⟩, p', a', q', r'⟩)).size = (dD ⟨s', ⟨k', nm', n', [y0, y1, y2, y3, y4, y5, y6, y7]⟩, p', a', q', r'⟩).length := mJ _;have HG : Hid (∀ h : 1 < (bA (dD ⟨s', ⟨k', nm', n', [y0, y1, y2, y3, y4, y5, y6, y7]⟩, p', a', q', r'⟩)).size, (dD ⟨s', ⟨k', nm', n', [y0, y1, y2, y3, y4, y5, y6, y7]⟩, p', a', q', r'⟩).getD 1 0 = (bA (dD ⟨s', ⟨k', nm', n', [y0, y1, y2, y3, y4, y5, y6, y7]⟩, p', a', q', r'⟩))[1]) := fun h => by
      have hl : 1 < (dD ⟨s', ⟨k', nm', n', [y0, y1, y2, y3, y4, y5, y6, y7]⟩, p', a', q', r'⟩).length := by rw [<- mJ]; exact h
      rw [zh, zl hl];rfl
    have HG0 : Hid (¬ 1 < (bA (dD ⟨s', ⟨k', nm', n', [y0, y1, y2, y3, y4, y5, y6, y7]⟩, p', a', q', r'⟩)).size -> (dD ⟨s', ⟨k', nm', n', [y0, y1, y2, y3, y4, y5, y6, y7]⟩, p', a', q', r'⟩).getD 1 0 ≠ 47) := fun h => by
      rw [zh, List.getElem?_eq_none (by rw [<- mJ]; omega)]
      decide
    have hb1 := hbd.1;have hb2 := hbd.2.1;generalize (dD ⟨s', ⟨k', nm', n', [y0, y1, y2, y3, y4, y5, y6, y7]⟩, p', a', q', r'⟩).getD 1 0 = d1 at HO HG HG0;generalize (gB ⟨s, ⟨k, nm, n, [x0, x1, x2, x3, x4, x5, x6, x7]⟩, p, a, q, r⟩ t.data.toList).1 = c at CI HR2;clear ht2 hres HF hbd HTA;generalize (uTx ⟨s', ⟨k', nm', n', [y0, y1, y2, y3, y4, y5, y6, y7]⟩, p', a', q', r'⟩).length = lt at *;generalize bA (uTx ⟨s', ⟨k', nm', n', [y0, y1, y2, y3, y4, y5, y6, y7]⟩, p', a', q', r'⟩) = T at *;generalize bA (fF ⟨s, ⟨k, nm, n, [x0, x1, x2, x3, x4, x5, x6, x7]⟩, p, a, q, r⟩) = OB at *;generalize bA (fF ⟨s', ⟨k', nm', n', [y0, y1, y2, y3, y4, y5, y6, y7]⟩, p', a', q', r'⟩) = OU at *;generalize (dD ⟨s', ⟨k', nm', n', [y0, y1, y2, y3, y4, y5, y6, y7]⟩, p', a', q', r'⟩).length = lp at *;generalize bA (dD ⟨s', ⟨k', nm', n', [y0, y1, y2, y3, y4, y5, y6, y7]⟩, p', a', q', r'⟩) = RT at *;go_wp2_with (first | (refine bU P3.out.1 rfl rfl _ rfl rfl ?_) | (refine bU P3.out.2.1 rfl rfl _ rfl rfl ?_));refine (CT.out _ P3.out.2.2.1).mono ?_;rintro e w4 ⟨rfl, b4⟩;have P4 := fG (P3.out.later b4);clear b4 P3 CT;go_wp2_with (first | (refine bU P4.out.1 rfl rfl _ rfl rfl ?_) | (refine bU P4.out.2.1 rfl rfl _ rfl rfl ?_));refine (CI.out _ P4.out.2.2.1).mono ?_;rintro e w5 ⟨rfl, b5⟩;have p5 := P4.out.later b5;have hlt5 : V + 1 < w5.heap.size := p5.2.1.2.2;have P5 := fG (p5.alloc (.cells #[.int .i64 0, .int .i64 0, .string ⟨#[]⟩, .int .i64 0, .int .i64 0, .int .i64 0, .int .i64 0, .int .i64 0, .int .i64 0, .int .i64 0, .int .i64 0, .int .i64 0, .int .i64 0, .string ⟨#[]⟩, .bool false, .string ⟨#[]⟩] 28));clear b5 p5 P4 CI
    go_upto_region 7 with (refine dI (UAt.new w5 _ _) rfl (us := aC s2 k2 nm2 n2 z0 z1 z2 z3 z4 z5 z6 z7 p2 a2 q2 r2) rfl (aS ..) rfl _ _ rfl rfl rfl ?_; intro w6 HUh HMh)
    have P6 := fG (P5.out.moved hlt5 HMh);have X6 : Hid (UAt w6 w5.heap.size (aC s2 k2 nm2 n2 z0 z1 z2 z3 z4 z5 z6 z7 p2 a2 q2 r2)) := HUh;clear HUh HMh P5;generalize w5.heap.size = X at X6 hlt5 ⊢
    try simp only [zj]
    by_cases hlong : 2000 < lt
    . have hli : 2000 < (T.size : Int) := by omega
      have hle : (t.size : Int) <= (T.size : Int) := by omega
      clear HR2 CG1 CG2 CQ HO HG HG0;go_wp2_with fail;go_ret;exact ⟨rfl, P6.out.2.2.1⟩
    . have hli : ¬ 2000 < (T.size : Int) := by omega
      have hle : (t.size : Int) <= (T.size : Int) := by omega
      obtain ⟨hc0, hrow⟩ := HR2.out om;subst hc0;rw [hrow] at X6;clear HR2 hrow hPP hTT
      go_upto_region 9 with fail
      try simp only [zj]
      have heq : ∀ W, (Op.equalIn 10000 28 (.agg (aC s' k' nm' n' y0 y1 y2 y3 y4 y5 y6 y7 p' a' q' r').toArray) (.agg (aC s' k' nm' n' y0 y1 y2 y3 y4 y5 y6 y7 p' a' q' r').toArray)).run prog W = .ok true W := fun W => by
        have h := eqUG s' k' n' p' nm' a' r' q' y0 y1 y2 y3 y4 y5 y6 y7 s' k' n' p' nm' a' r' q' y0 y1 y2 y3 y4 y5 y6 y7 W;rw [(ZF s' k' n' p' nm' a' r' q' y0 y1 y2 y3 y4 y5 y6 y7 s' k' n' p' nm' a' r' q' y0 y1 y2 y3 y4 y5 y6 y7).2 rfl] at h;exact h
      by_cases hE : OB = OU
      . have hst := xU hE
        have HS : Hid (d1 ≠ 47 -> t.size <= RT.size) := fun h => HO.out hE h om
        clear HO hE;refine wp_region_held_drew (S := fun W => PB2 w V (V + 1) (aC s k nm n x0 x1 x2 x3 x4 x5 x6 x7 p a q r) (aC s' k' nm' n' y0 y1 y2 y3 y4 y5 y6 y7 p' a' q' r') W) kr P6.out.drew (fun h0 => ?_);refine wpAnyH_take (i := 0) (v := .agg (aC s k nm n x0 x1 x2 x3 x4 x5 x6 x7 p a q r).toArray) rfl kr kr kr (fun _ _ _ h => h) (yieldsIf_load_mid (by rfl) _ _ rfl V 0 rfl (aC s k nm n x0 x1 x2 x3 x4 x5 x6 x7 p a q r) _ (fun W hW => hW.1.range 0 _ (fun j v hv => by rw [zn]; exact hv)) underlying28 rfl infoUrl) h0 ?_;simp only [zj, ze, zc, zd, za, zf, zg];refine wpAnyH_take (i := 2) (v := .agg (aC s' k' nm' n' y0 y1 y2 y3 y4 y5 y6 y7 p' a' q' r').toArray) rfl kr kr kr (fun _ _ _ h => h) (yieldsIf_load_mid (by rfl) _ _ rfl (V + 1) 0 rfl (aC s' k' nm' n' y0 y1 y2 y3 y4 y5 y6 y7 p' a' q' r') _ (fun W hW => hW.2.1.range 0 _ (fun j v hv => by rw [zn]; exact hv)) underlying28 rfl infoUrl) h0 ?_;simp only [zj, ze, zc, zd, za, zf, zg];refine wpAnyH_ready (rs := [1]) kr j2 (zk rfl (fun K hK => ?_) zm);go_simp;go_wp2_with (go_at_call 15; refine (CG1.out _ P6.out.2.2.1.drew).mono ?_; rintro e w7 ⟨rfl, b7⟩);have P7 := P6.out.drew.later b7;have X7 := (show UAt w6.drew X (aC s' k' nm' n' y0 y1 y2 y3 y4 y5 y6 y7 p' a' q' r') from X6.out).below b7;refine hK.out _ _ P7 (fun h1 => ?_);clear hK K h1 b7;refine wpAnyH_ready (rs := [3]) kr j2 (zk rfl (fun K hK => ?_) zm);go_simp;go_wp2_with (go_at_call 15; refine (CG2.out _ P7.2.2.1).mono ?_; rintro e w8 ⟨rfl, b8⟩);have P8 := fG (P7.later b8);have X8 := fG (X7.below b8);refine hK.out _ _ P8.out (fun h1 => ?_);clear hK K h1 b8 P7 X7 h0 P6 X6;have h0 := P8.out;refine wpAnyH_take (i := 4) (v := ?_) rfl kr kr kr (fun _ _ _ h => h) (Or.inl ⟨by rfl, fun W hW => ?_⟩) h0 ?_;rotate_left
        . go_simp
          try with_reducible rfl
        simp only [zj, ze, zc, zd, za, zf, zg];refine wpAnyH_take (i := 5) (v := ?_) rfl kr kr kr (fun _ _ _ h => h) (Or.inl ⟨by rfl, fun W hW => ?_⟩) h0 ?_;rotate_left
        . go_simp
          try with_reducible rfl
        simp only [zj, ze, zc, zd, za, zf, zg];refine wpAnyH_done kr ?_ _;clear h0 hst CG1 CG2;go_wp2_with (first | (refine bU P8.out.1 rfl rfl _ rfl rfl ?_) | (refine bU P8.out.2.1 rfl rfl _ rfl rfl ?_));refine (CQ.out _ P8.out.2.2.1).mono ?_;rintro e w9 ⟨rfl, b9⟩;have P9 := fG (P8.out.later b9);have X9 := fG (X8.out.below b9);clear b9 P8 X8 CQ
        by_cases h1 : 1 < RT.size
        . have hd := HG.out h1
          have h1i : 1 < (RT.size : Int) := by omega
          obtain ⟨d, hdd⟩ : ∃ d : Nat, RT[1].toNat = d := ⟨_, rfl⟩;have hdm : (d : Int) <= 255 := by have := RT[1].toNat_lt; omega
          by_cases h47 : d = 47
          . subst h47
            clear HS HG HG0 hd;go_wp2_with (first | (refine kQ X9.out rfl rfl _ rfl rfl ?_) | (refine kQ P9.out.2.1 rfl rfl _ rfl rfl ?_));go_ret;exact ⟨rfl, P9.out.2.2.1⟩
          . have h47i : ((d : Int) == 47) = false := beq_eq_false_iff_ne.2 om
            have hrl : (t.size : Int) <= (RT.size : Int) := by
              have := HS.out (fun e => h47 (by rw [<- hdd, <- hd, e]; rfl));omega
            clear HS HG HG0 hd;go_wp2_with (first | (refine kQ X9.out rfl rfl _ rfl rfl ?_) | (refine kQ P9.out.2.1 rfl rfl _ rfl rfl ?_));go_ret;exact ⟨rfl, P9.out.2.2.1⟩
        . have h1i : ¬ 1 < (RT.size : Int) := by omega
          have hrl : (t.size : Int) <= (RT.size : Int) := by
            have := HS.out (HG0.out h1);omega
          clear HS HG HG0;go_wp2_with (first | (refine kQ X9.out rfl rfl _ rfl rfl ?_) | (refine kQ P9.out.2.1 rfl rfl _ rfl rfl ?_));go_ret;exact ⟨rfl, P9.out.2.2.1⟩
      . have hst := mZ hE
        clear HO HG HG0 hE;refine wp_region_held_drew (S := fun W => PB2 w V (V + 1) (aC s k nm n x0 x1 x2 x3 x4 x5 x6 x7 p a q r) (aC s' k' nm' n' y0 y1 y2 y3 y4 y5 y6 y7 p' a' q' r') W) kr P6.out.drew (fun h0 => ?_);refine wpAnyH_take (i := 0) (v := .agg (aC s k nm n x0 x1 x2 x3 x4 x5 x6 x7 p a q r).toArray) rfl kr kr kr (fun _ _ _ h => h) (yieldsIf_load_mid (by rfl) _ _ rfl V 0 rfl (aC s k nm n x0 x1 x2 x3 x4 x5 x6 x7 p a q r) _ (fun W hW => hW.1.range 0 _ (fun j v hv => by rw [zn]; exact hv)) underlying28 rfl infoUrl) h0 ?_;simp only [zj, ze, zc, zd, za, zf, zg];refine wpAnyH_take (i := 2) (v := .agg (aC s' k' nm' n' y0 y1 y2 y3 y4 y5 y6 y7 p' a' q' r').toArray) rfl kr kr kr (fun _ _ _ h => h) (yieldsIf_load_mid (by rfl) _ _ rfl (V + 1) 0 rfl (aC s' k' nm' n' y0 y1 y2 y3 y4 y5 y6 y7 p' a' q' r') _ (fun W hW => hW.2.1.range 0 _ (fun j v hv => by rw [zn]; exact hv)) underlying28 rfl infoUrl) h0 ?_;simp only [zj, ze, zc, zd, za, zf, zg];refine wpAnyH_ready (rs := [1]) kr j2 (zk rfl (fun K hK => ?_) zm);go_simp;go_wp2_with (go_at_call 15; refine (CG1.out _ P6.out.2.2.1.drew).mono ?_; rintro e w7 ⟨rfl, b7⟩);have P7 := P6.out.drew.later b7;have X7 := (show UAt w6.drew X (aC s' k' nm' n' y0 y1 y2 y3 y4 y5 y6 y7 p' a' q' r') from X6.out).below b7;refine hK.out _ _ P7 (fun h1 => ?_);clear hK K h1 b7;refine wpAnyH_ready (rs := [3]) kr j2 (zk rfl (fun K hK => ?_) zm);go_simp;go_wp2_with (go_at_call 15; refine (CG2.out _ P7.2.2.1).mono ?_; rintro e w8 ⟨rfl, b8⟩);have P8 := fG (P7.later b8);have X8 := fG (X7.below b8);refine hK.out _ _ P8.out (fun h1 => ?_);clear hK K h1 b8 P7 X7 h0 P6 X6;have h0 := P8.out;refine wpAnyH_take (i := 4) (v := ?_) rfl kr kr kr (fun _ _ _ h => h) (Or.inl ⟨by rfl, fun W hW => ?_⟩) h0 ?_;rotate_left
        . go_simp
          try with_reducible rfl
        simp only [zj, ze, zc, zd, za, zf, zg];refine wpAnyH_take (i := 5) (v := ?_) rfl kr kr kr (fun _ _ _ h => h) (Or.inl ⟨by rfl, fun W hW => ?_⟩) h0 ?_;rotate_left
        . go_simp
          try with_reducible rfl
        simp only [zj, ze, zc, zd, za, zf, zg];refine wpAnyH_done kr ?_ _;clear h0 hst CG1 CG2;go_wp2_with (first | (refine bU P8.out.1 rfl rfl _ rfl rfl ?_) | (refine bU P8.out.2.1 rfl rfl _ rfl rfl ?_));refine (CQ.out _ P8.out.2.2.1).mono ?_;rintro e w9 ⟨rfl, b9⟩;have P9 := fG (P8.out.later b9);have X9 := fG (X8.out.below b9);clear b9 P8 X8 CQ;go_wp2_with (first | (refine kQ X9.out rfl rfl _ rfl rfl ?_) | (refine kQ P9.out.2.1 rfl rfl _ rfl rfl ?_));go_ret;exact ⟨rfl, P9.out.2.2.1⟩

set_option maxRecDepth 100000 in
theorem Cb (H : Type) (enc : TypeId × Value -> H) (W : World) (base : Nat) (args : Array Value) (ds gs : List (DataW H)) (before : List MemPlace)
    (hval : ∀ (j : Nat) t v, f6.params[j]? = some t -> args[j]? = some v -> Value.okWide prog W .any base t v)
    (hW : DataW.Whole enc prog f6.params.toList Rows.fnRelativeSpec.vars false W args.toList ds gs before) (hL : laidMetH prog rA W) (hSh : W.ShapedOpen prog) :
    Calls prog 6 args W fun e W' => ∃ v, e = .returned v /\ Rows.fnRelativeSpec.post enc prog f6 false true false false W args v W' := by
  have hW' := hW;obtain ⟨p, q, hA0, hV, rfl, hfz, hnd⟩ := hW;have hA : DataW.TrodAll enc prog W 0 (fun _ => true) true f6.params.toList args.toList ds p := hA0;rw [params6] at hA hval;obtain ⟨v0, vs0, d0, ds0, p0, q0, hargs, rfl, rfl, h0, r0⟩ := trodAll_cons hA;obtain ⟨rfl, rfl, rfl⟩ := trodAll_nil r0
  obtain rfl : args = #[v0] := by cases args; simp_all
  obtain ⟨g1, g2, g3, g4, g5, g6, g7, rfl⟩ := WF hV;obtain ⟨ad, hSens⟩ := At hL;obtain ⟨a0, len0, cap0, rfl⟩ := okWide_slice underlying22 (hval 0 22 v0 rfl rfl);have k0 := h0;have lt0 : ∀ x ∈ p0, x.block < W.heap.size := by obtain ⟨m, hm⟩ := k0; exact DataW.trod_lt m _ _ _ hm
  obtain ⟨z0, w0⟩ : ∃ zs, Ge .u8 W a0 len0 cap0 zs := by
    obtain ⟨fuel, hf⟩ := h0
    rcases open_ints underlying22 underlying5 kr hf with ⟨hcs, _⟩ | ⟨x, l, c, zs, hcs, _, hl, hm, hz, _, hcell, hwz⟩
    . simp [Value.cells] at hcs
      obtain ⟨rfl, rfl, rfl⟩ := hcs;exact ⟨[], .inl ⟨rfl, rfl, rfl, rfl⟩⟩
    . simp [Value.cells] at hcs
      obtain ⟨rfl, rfl, rfl⟩ := hcs;exact ⟨zs, .inr ⟨_, rfl, hl, hm, by simpa using hz, hcell, hwz⟩⟩
  clear hA0;refine (walk a0 len0 cap0 z0 W w0 ad ⟨M7 (xN hL), Cs (xN hL), Ct (xN hL), TW hSh, ZX (xN hL), N0 (xN hL), hSens⟩).mono fun e W' ⟨he, bel⟩ => ?_
  subst he;exact ⟨_, rfl, _, _, _, [], _, _, hW', trodAll_mk1 (shut_bool underlying4 _), (trodAll_cons_mk (Below.trod vR kr (of_decide_eq_true kr) k0 bel lt0) trodAll_mk0), bel.trodVars vR kr hV, bel.frame _, fun h => by cases h⟩

theorem TM(os:Os){H:Type}(enc:TypeId×Value->H):
    (OpenSpec.ofChange Rows.fnRelativeSpec).preRow enc prog f6 Rows.fnRelativeRow.domain false rA (({zi prog os ⟨iV,#[],[]⟩with heap:=BJ (zi prog os ⟨iV,#[],[]⟩).heap}:World).forCall (fun _ _=>0) ⟨#[],#[.slice none 0 0],[]⟩).memory #[.slice none 0 0]:=by
  obtain ⟨x,hx⟩:=Option.isSome_iff_exists.1 (show (DataW.whole enc prog (({zi prog os ⟨iV,#[],[]⟩with heap:=BJ (zi prog os ⟨iV,#[],[]⟩).heap}:World).forCall (fun _ _=>0) ⟨#[],#[.slice none 0 0],[]⟩).memory f6.params.toList Rows.fnRelativeSpec.vars false (#[.slice none 0 0]:Array Value).toList 8).isSome=true by kernel_rfl);exact OpenSpec.preRow_of_cond 8 hx kr (fun k hk=>by cases hk) kr (Ey os _)

set_option maxRecDepth 100000 in
set_option maxHeartbeats 2000000 in
theorem Ii(os:Os)(started:os.Started)(H:Type)(enc:TypeId×Value->H)(F:Stop.Interp):
    ReturnsInHanded {} checked os 6 .any ((OpenSpec.ofChange Rows.fnRelativeSpec).preRow enc prog f6 Rows.fnRelativeRow.domain false rA) (((OpenSpec.ofChange Rows.fnRelativeSpec).at F).post enc prog f6 false true false false):=by
  refine returnsInHanded_of_row (C:=checked) (s:=OpenSpec.ofChange Rows.fnRelativeSpec) M6 started kr func6
    (witness_row_atRef (enc:=enc) (C:=checked) false ({zi prog os ⟨iV,#[],[]⟩with heap:=BJ (zi prog os ⟨iV,#[],[]⟩).heap}) #[.slice none 0 0] rfl kr kr kr (TM os enc)) ?_
  intro W base args ds gs before hval hW _ _ _ hL hSh _;exact Cb H enc W base args ds gs before hval hW hL hSh

theorem J1{a b:Bool}(h:a=true)(k:b=true):(a&&b)=true:=by rw[h,k];rfl
set_option maxRecDepth 100000 in
set_option maxHeartbeats 16000000 in
theorem said:Rows.FnRelativeSaid:=
  OpenClaim.holds_of_cond 6 f6 rfl rfl rfl rfl rfl rfl rfl ⟨rfl,rfl,rfl,rfl,rfl⟩ rfl rfl rfl rfl rfl (by as_aux_lemma=>kernel_rfl) func6
    (by unfold joinedFacts;repeat' (with_reducible refine J1 ?_ ?_)
        all_goals as_aux_lemma=>kernel_rfl)
    (by as_aux_lemma=>exact of_decide_eq_true kr) (by as_aux_lemma=>unfold Func.isWrapper;first|(rw[if_pos (by decide+kernel)];kernel_rfl)|(rw[if_neg (by decide+kernel)];exact ⟨rfl,rfl⟩))
    (fun os started H enc _ F=>by rw[OpenClaim.pre_eq_preRow];exact Ii os started H enc F)

theorem plain(f:FuncId)(fn:Func)(hf:pinned.checked.prog.funcNamed "loop.example/g00191/laws.FnRelative" =some f)(hfn:pinned.checked.prog.funcs[f]? =some fn):
    true=pinned.checked.prog.looks []/\ ∀(j:Nat) t,fn.params[j]? =some t->pinned.checked.prog.wantsStandIn t=false:=by
  obtain rfl:f=6:=Option.some.inj ((show prog.funcNamed "loop.example/g00191/laws.FnRelative" =some 6 by kernel_rfl).symm.trans hf)|>.symm
  obtain rfl:fn=f6:=(Option.some.inj (func6.symm.trans hfn)).symm
  refine ⟨kr,fun j t ht=> ?_⟩;rw[params6]at ht
  obtain rfl:t=22:=by simpa using Array.mem_of_getElem? ht
  exact (show prog.wantsStandIn 22=false by kernel_rfl)

theorem card:Rows.FnRelativeCardSaid:=
  Claim7.holds_tied_plain_at .later [] _ _ _ _ said (fun _ h=>by cases h) kr (fun _ h=>by cases h) fnRelative_row_tie rfl ⟨rfl,rfl⟩ kr rfl plain kr
end Go.Proofs.YtgcbaphbiaimoaaGreatDoor.fnRelative

namespace Go.Proofs.YtgcbaphbiaimoaaGreatDoor
open _root_.Go.Act renaming put->zj
open _root_.Go.AllReadyH renaming cons->zk,nil->zm
open _root_.List renaming getD_eq_getElem?_getD->zh,getElem?_eq_getElem->zl,getElem_cons_succ->zd,getElem_cons_zero->zc,getElem_toArray->ze,setIfInBounds_toArray->za,set_cons_succ->zg,set_cons_zero->zf
open _root_.Nat renaming zero_add->zn
open _root_.Go.World renaming holding->zi
open _root_.Go.Proofs.Tryz
open _root_.Go.Proofs.YtgcbaphbiaimoaaGreatDoor.Tryz
theorem fnRelative_holds:Rows.FnRelativeCardSaid:=fnRelative.card
#print axioms fnRelative_holds
