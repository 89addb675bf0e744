/- Ip4Spec, Ip6Plain, Ip4Impl, HexImpl, GroupsText, RowWalk, Ip6Impl. -/
import Derived.Test.YtidecdlaeomfoaaGreatQA11
import Derived.Lib.AppendIntMem
set_option maxHeartbeats 8000000
set_option maxRecDepth 20000
namespace Go.Proofs.YtidecdlaeomfoaaGreat
open Go.RowKit
theorem specTextG (x : Int) (w : World) (T1 T : ByteArray) (h0 : 10 ≤ x) (h1 : x < 100000) (hs1 : T1.size ≤ 5) (CT : Hid (∀ W, Calls Tryz.prog 67 #[.int .i64 (x / 10)] W fun e w' => e = .returned (.string T1) ∧ Below W.heap.size W w')) (HD : Hid (T = T1 ++ digT (x % 10).toNat)) :
  Calls Tryz.prog 67 #[.int .i64 x] w fun e w' => e = .returned (.string T) ∧ Below w.heap.size w w' := by
 have hn : Hid (∀ W : World, (convert 22 9 (.slice (some ⟨W.heap.size, 0, none⟩) 1 1)).run Tryz.prog (W.alloc (.cells #[.int .u8 (48 + x % 10)] 5)) = .ok (.string (digT (x % 10).toNat)) (W.alloc (.cells #[.int .u8 (48 + x % 10)] 5))) := fun W => conv_new W (48 + (x % 10).toNat) (by omega) (48 + x % 10) (by omega)
 have ho : Hid (∀ (W' : World) (B : Nat), W'.cell? ⟨B, 0, none⟩ = some (.int .u8 (48 + x % 10)) → (convert 22 9 (.slice (some ⟨B, 0, none⟩) 1 1)).run Tryz.prog W' = .ok (.string (digT (x % 10).toNat)) W') := fun W' B h => conv_at W' B (48 + (x % 10).toNat) (by omega) (48 + x % 10) (by omega) h
 have hs2 : (digT (x % 10).toNat).size = 1 := rfl
 have hz0 : 0 ≤ x % 10 := by omega
 have hz1 : x % 10 < 10 := by omega
 have hy0 : 0 ≤ x / 10 := by omega
 have hy1 : x / 10 < 10000 := by omega
 obtain ⟨z, hz⟩ : ∃ z : Int, x % 10 = z := ⟨_, rfl⟩
 obtain ⟨y, hy⟩ : ∃ y : Int, x / 10 = y := ⟨_, rfl⟩
 rw [hz] at hn ho hs2 hz0 hz1 HD
 rw [hy] at CT hy0 hy1
 generalize digT z.toNat = T2 at hn ho hs2 HD
 rw [HD.out]
 clear HD
 have hn2 := hn.out
 have hce : (w.alloc (.cells #[.int .u8 (48 + z)] 5)).drew.cell? ⟨w.heap.size, 0, none⟩ = some (.int .u8 (48 + z)) := by
  show (w.alloc (.cells #[.int .u8 (48 + z)] 5)).cell? ⟨w.heap.size, 0, none⟩ = _
  rw [World.cell?_alloc_at _ _ _ _ rfl]; rfl
 have hn3 := ho.out _ _ hce
 have HCE : Hid ((w.alloc (.cells #[.int .u8 (48 + z)] 5)).drew.cell? ⟨w.heap.size, 0, none⟩ = some (.int .u8 (48 + z))) := hce
 clear hce
 have t1 : IntKind.i64.wrap (x.tdiv 10) = y := by rw [Int.tdiv_eq_ediv_of_nonneg (by omega), hy]; exact i64_wrap_small _ (by omega) (by omega)
 have t2 : x.tmod 10 = z := by rw [Int.tmod_eq_emod_of_nonneg (by omega), hz]
 have t3 : IntKind.i64.wrap (48 + z) = 48 + z := i64_wrap_small _ (by omega) (by omega)
 have t4 : IntKind.u8.wrap (48 + z) = 48 + z := by simp [IntKind.wrap, IntKind.bits, IntKind.signed]; omega
 have t5 : IntKind.u8.wrap (IntKind.i64.wrap (48 + z)) = 48 + z := by rw [t3, t4]
 clear hy hz
 go_enter Tryz.func67, Tryz.ntmps67
 go_wp2_with fail
 go_region_with (go_at_call 67; refine (CT.out _).mono ?_; rintro e wc ⟨rfl, hbc⟩; first | have hcc := ho.out _ _ (cell_later hbc HCE.out) | skip)
 ·go_wp2
  go_ret
  exact ⟨rfl, ((Below.drew (Below.refl _ w)).trans hbc).alloc (Nat.le_trans (Nat.le_refl _) hbc.size) _⟩
 ·go_wp2
  go_ret
  exact ⟨rfl, (((Below.refl w.heap.size w).alloc (Nat.le_refl _) _).drew).trans (hbc.mono (by simp))⟩
 go_wp2
 go_ret
 exact ⟨rfl, (((Below.refl w.heap.size w).alloc (Nat.le_refl _) _).drew).trans (hbc.mono (by simp))⟩
theorem specText2 (x : Int) (w : World) (h0 : 10 ≤ x) (h1 : x < 1000) (CT : Hid (∀ W, Calls Tryz.prog 67 #[.int .i64 (x / 10)] W fun e w' => e = .returned (.string (decT (x / 10))) ∧ Below W.heap.size W w')) (HD : Hid (decT x = decT (x / 10) ++ digT (x % 10).toNat)) :
  Calls Tryz.prog 67 #[.int .i64 x] w fun e w' => e = .returned (.string (decT x)) ∧ Below w.heap.size w w' := specTextG x w _ _ h0 (by omega) (Nat.le_trans (decT_size _) (by decide)) CT HD
theorem specText (x : Int) (w : World) (h0 : 0 ≤ x) (h1 : x < 1000) :
  Calls Tryz.prog 67 #[.int .i64 x] w fun e w' => e = .returned (.string (decT x)) ∧ Below w.heap.size w w' := by
 by_cases h10 : x < 10
 ·exact specText1 x w h0 h10
 by_cases h100 : x < 100
 ·exact specText2 x w (by omega) h1 (fun W => specText1 _ W (by omega) (by omega)) (decT_2 (by omega) h100)
 exact specText2 x w (by omega) h1 (fun W => specText2 _ W (by omega) (by omega) (fun W => specText1 _ W (by omega) (by omega)) (decT_2 (by omega) (by omega))) (decT_3 (by omega) h1)
def ip4T (n : Int) : ByteArray := ⟨(ip4L n.toNat).toArray⟩
theorem ip4T_cat {n : Int} (h0 : 0 ≤ n) : ip4T n = decT (n / 16777216) ++ ⟨#[46]⟩ ++ decT (n / 65536 % 256) ++ ⟨#[46]⟩ ++ decT (n / 256 % 256) ++ ⟨#[46]⟩ ++ decT (n % 256) := by
 unfold ip4T decT ip4L
 rw [show (⟨#[46]⟩ : ByteArray) = ⟨[46].toArray⟩ from rfl, cat_bytes, cat_bytes, cat_bytes, cat_bytes, cat_bytes, cat_bytes]
 have e1 : (n / 16777216).toNat = n.toNat / 16777216 := by omega
 have e2 : (n / 65536 % 256).toNat = n.toNat / 65536 % 256 := by omega
 have e3 : (n / 256 % 256).toNat = n.toNat / 256 % 256 := by omega
 have e4 : (n % 256).toNat = n.toNat % 256 := by omega
 rw [e1, e2, e3, e4]
 simp
theorem specIp4Text (n : Int) (w : World) (h0 : 0 ≤ n) (h1 : n < 4294967296) :
  Calls Tryz.prog 82 #[.int .i64 n] w fun e w' => e = .returned (.string (ip4T n)) ∧ Below w.heap.size w w' := by
 have HT : Hid (ip4T n = decT (n / 16777216) ++ ⟨#[46]⟩ ++ decT (n / 65536 % 256) ++ ⟨#[46]⟩ ++ decT (n / 256 % 256) ++ ⟨#[46]⟩ ++ decT (n % 256)) := ip4T_cat h0
 have c1 : Hid (∀ W, CB 67 #[.int .i64 (n / 16777216)] W (.string (decT (n / 16777216)))) := fun W => specText _ W (by omega) (by omega)
 have c2 : Hid (∀ W, CB 67 #[.int .i64 (n / 65536 % 256)] W (.string (decT (n / 65536 % 256)))) := fun W => specText _ W (by omega) (by omega)
 have c3 : Hid (∀ W, CB 67 #[.int .i64 (n / 256 % 256)] W (.string (decT (n / 256 % 256)))) := fun W => specText _ W (by omega) (by omega)
 have c4 : Hid (∀ W, CB 67 #[.int .i64 (n % 256)] W (.string (decT (n % 256)))) := fun W => specText _ W (by omega) (by omega)
 have b2 : bits .and .i64 (n / 65536) 255 = n / 65536 % 256 := i64_low 8 255 rfl _ (by omega) (by omega) (by decide)
 have b3 : bits .and .i64 (n / 256) 255 = n / 256 % 256 := i64_low 8 255 rfl _ (by omega) (by omega) (by decide)
 have b4 : bits .and .i64 n 255 = n % 256 := i64_low 8 255 rfl _ (by omega) (by omega) (by decide)
 have s1 := decT_size (n / 16777216)
 have s2 := decT_size (n / 65536 % 256)
 have s3 := decT_size (n / 256 % 256)
 have s4 := decT_size (n % 256)
 generalize decT (n / 16777216) = T1 at HT c1 s1
 generalize decT (n / 65536 % 256) = T2 at HT c2 s2
 generalize decT (n / 256 % 256) = T3 at HT c3 s3
 generalize decT (n % 256) = T4 at HT c4 s4
 have sz : (⟨#[46]⟩ : ByteArray).size = 1 := rfl
 rw [HT.out]
 clear HT
 go_enter Tryz.func82, Tryz.ntmps82
 go_wp2_with fail
 refine (specL1In_yes _ _ _ _ (by omega) (by omega)).mono ?_
 rintro e w' ⟨rfl, rfl⟩
 go_wp2_with fail
 refine (c1.out _).mono ?_
 rintro e w1 ⟨rfl, k1⟩
 go_wp2_with fail
 refine (c2.out _).mono ?_
 rintro e w2 ⟨rfl, k2⟩
 go_wp2_with fail
 refine (c3.out _).mono ?_
 rintro e w3 ⟨rfl, k3⟩
 go_wp2_with fail
 refine (c4.out _).mono ?_
 rintro e w4 ⟨rfl, k4⟩
 have B1 : Below w.heap.size w w4 := ((k1.trans (k2.mono k1.size)).trans (k3.mono (Nat.le_trans k1.size k2.size))).trans (k4.mono (Nat.le_trans (Nat.le_trans k1.size k2.size) k3.size))
 clear k1 k2 k3 k4
 go_wp2_with fail
 go_ret
 exact ⟨rfl, B1⟩
def hxU (i : Nat) : UInt8 := UInt8.ofNat (if i < 10 then 48 + i else 87 + i)
def hex4 (n : Nat) : List UInt8 := if n < 16 then [hxU n] else if n < 256 then [hxU (n / 16), hxU (n % 16)] else if n < 4096 then [hxU (n / 256), hxU (n / 16 % 16), hxU (n % 16)] else [hxU (n / 4096), hxU (n / 256 % 16), hxU (n / 16 % 16), hxU (n % 16)]
theorem hex4_len (n : Nat) : 1 ≤ (hex4 n).length ∧ (hex4 n).length ≤ 4 := by
 unfold hex4
 split
 ·simp
 split
 ·simp
 split <;> simp
def cut6L : List UInt8 → Option (List UInt8 × List UInt8)
 | [] => none
 | c :: r => if c = 58 ∧ r.head? = some 58 then some ([], r.tail) else (cut6L r).map fun p => (c :: p.1, p.2)
def g16 (x : List UInt8) : Option Nat := if x.isEmpty then none else numL 16 4 x
def grp (t : Bool) : List (List UInt8) → Option (List Nat)
 | [] => some []
 | x :: r => match (if t && r.isEmpty then p4 x else none) with
  | some n => some [n / 65536, n % 65536]
  | none => match g16 x with
   | none => none
   | some v => (grp t r).map (v :: ·)
def grpS (t : Bool) (l : List UInt8) : Option (List Nat) := if l.isEmpty then some [] else grp t (spl 58 l)
def fill8 (a b : List Nat) : List Nat := a ++ List.replicate (8 - a.length - b.length) 0 ++ b
def par6 (l : List UInt8) : Option (List Nat) := match cut6L l with
 | none => match grpS true l with
  | none => none
  | some g => if g.length = 8 then some g else none
 | some (a, b) => match grpS false a, grpS true b with
  | some x, some y => if x.length + y.length ≤ 7 then some (fill8 x y) else none
  | _, _ => none
def gtL (gs : List Nat) : List UInt8 := jl 58 (gs.map hex4)
def ip6T (w : List Nat) (f e : Nat) : List UInt8 := if e - f < 2 then gtL w else gtL (w.take f) ++ 58 :: 58 :: gtL (w.drop e)
theorem gt_len : ∀ gs : List Nat, (gtL gs).length ≤ 5 * gs.length - 1 ∧ gs.length ≤ (gtL gs).length
 | [] => by simp [gtL, jl]
 | [g] => by have := hex4_len g; simp [gtL, jl]; omega
 | g :: h :: r => by
  have ih := gt_len (h :: r)
  have hg := hex4_len g
  unfold gtL at ih ⊢
  rw [List.map_cons, List.map_cons, jl, List.length_append, List.length_cons]
  rw [List.map_cons] at ih
  simp only [List.length_cons] at ih ⊢
  omega
theorem ip6_len {w : List Nat} {f e : Nat} (hl : w.length = 8) (he : e ≤ 8) : 2 ≤ (ip6T w f e).length ∧ (ip6T w f e).length ≤ 39 := by
 unfold ip6T
 have g1 := gt_len w
 have g2 := gt_len (w.take f)
 have g3 := gt_len (w.drop e)
 split
 ·omega
 simp only [List.length_append, List.length_cons, List.length_take, List.length_drop] at g2 g3 ⊢
 omega
def rowI : Nat → Nat × Nat × Nat → List Bool → Nat × Nat × Nat
 | _, s, [] => s
 | i, (f, t, b), z :: r => rowI (i + 1) (if z then (if t - f < i + 1 - b then (b, i + 1, b) else (f, t, b)) else (f, t, i + 1)) r
def runZ : List Bool → Nat
 | true :: r => runZ r + 1
 | _ => 0
def rowS : Nat → Nat × Nat → List Bool → Nat × Nat
 | _, s, [] => s
 | a, (f, t), z :: r => rowS (a + 1) (if 1 < runZ (z :: r) ∧ t - f < runZ (z :: r) then (a, a + runZ (z :: r)) else (f, t)) r
def rowOkB (z : List Bool) : Bool :=
 let p := rowI 0 (0, 0, 0) z
 let q := rowS 0 (8, 8) z
 decide (p.1 ≤ p.2.1) && decide (p.2.1 ≤ 8) && (if p.2.1 - p.1 < 2 then decide (q = (8, 8)) else decide (q = (p.1, p.2.1)) && (List.range 8).all fun i => !(decide (p.1 ≤ i) && decide (i < p.2.1)) || z.getD i false)
theorem rows_ok : ∀ a b c d e f g h : Bool, rowOkB [a, b, c, d, e, f, g, h] = true := by decide +kernel


theorem jl_snoc (b : UInt8) : ∀ {l : List (List UInt8)} {x : List UInt8}, l ≠ [] → jl b (l ++ [x]) = jl b l ++ b :: x
 | [], _, h => absurd rfl h
 | [y], x, _ => rfl
 | y :: z :: r, x, _ => by
  have ih := jl_snoc b (l := z :: r) (x := x) (by simp)
  rw [List.cons_append, List.cons_append, jl, jl, ← List.cons_append, ih]
  simp
theorem gt_zero (gs : List Nat) (h : 0 < gs.length) : gtL (gs.take 1) = hex4 (gs.getD 0 0) := by
 cases gs with
 | nil => simp at h
 | cons g r => rfl
theorem gt_succ (gs : List Nat) (k : Nat) (h : k < gs.length) (hk : 0 < k) : gtL (gs.take (k + 1)) = gtL (gs.take k) ++ [58] ++ hex4 (gs.getD k 0) := by
 unfold gtL
 rw [List.take_succ_eq_append_getElem h, List.map_append, List.map_cons, List.map_nil, jl_snoc]
 ·simp [List.getD, h]
 intro e
 have h1 : ((gs.take k).map hex4).length = 0 := by rw [e]; rfl
 rw [List.length_map, List.length_take] at h1
 omega
def GrpAt (w : World) (g off : Nat) (gs : List Nat) : Prop := ∀ j, j < gs.length → w.cell? ⟨g, off + j, none⟩ = some (.int .i64 ((gs.getD j 0 : Nat) : Int))
theorem GrpAt.later {w w' : World} {g off : Nat} {gs : List Nat} (h : GrpAt w g off gs) (hb : Below w.heap.size w w') : GrpAt w' g off gs := fun j hj => cell_later hb (h j hj)
def okG (z : List Int) : Bool := z.all fun x => decide (0 ≤ x ∧ x ≤ 65535)
def zb (z : List Int) : List Bool := z.map fun x => decide (x = 0)
theorem okG_no {z : List Int} {y : Int} (hy : y ∈ z) (h : ¬ (0 ≤ y ∧ y ≤ 65535)) : okG z = false := List.all_eq_false.2 ⟨y, hy, by simpa using h⟩
theorem okG_yes {z : List Int} (h : ∀ x ∈ z, 0 ≤ x ∧ x ≤ 65535) : okG z = true := List.all_eq_true.2 fun x hx => decide_eq_true (h x hx)
theorem cell8 (w : World) (x0 x1 x2 x3 x4 x5 x6 x7 : Int) (k : Nat) (hk : k < 8) :
  (w.alloc (.cells #[.int .i64 x0, .int .i64 x1, .int .i64 x2, .int .i64 x3, .int .i64 x4, .int .i64 x5, .int .i64 x6, .int .i64 x7] 65)).cell? ⟨w.heap.size, k, none⟩ = some (.int .i64 ([x0, x1, x2, x3, x4, x5, x6, x7].getD k 0)) := by
 rw [World.cell?_alloc_at _ _ _ _ rfl]
 have h : k = 0 ∨ k = 1 ∨ k = 2 ∨ k = 3 ∨ k = 4 ∨ k = 5 ∨ k = 6 ∨ k = 7 := by omega
 rcases h with rfl | rfl | rfl | rfl | rfl | rfl | rfl | rfl <;> rfl
theorem zb_drop (z : List Int) (k : Nat) (h : k < z.length) : (zb z).drop k = decide (z.getD k 0 = 0) :: (zb z).drop (k + 1) := by
 unfold zb
 rw [List.drop_eq_getElem_cons (by simpa using h)]
 simp [List.getD, h]
theorem zb_end (z : List Int) (k : Nat) (h : z.length ≤ k) : (zb z).drop k = [] := List.drop_of_length_le (by simpa [zb] using h)
theorem runZ_yes {z : List Int} {k : Nat} (h : k < z.length) (h0 : z.getD k 0 = 0) : runZ ((zb z).drop k) = runZ ((zb z).drop (k + 1)) + 1 := by
 rw [zb_drop z k h, decide_eq_true h0]; rfl
theorem runZ_no {z : List Int} {k : Nat} (h : k < z.length) (h0 : ¬ z.getD k 0 = 0) : runZ ((zb z).drop k) = 0 := by
 rw [zb_drop z k h, decide_eq_false h0]; rfl
theorem runZ_end {z : List Int} {k : Nat} (h : z.length ≤ k) : runZ ((zb z).drop k) = 0 := by
 rw [zb_end z k h]; rfl
theorem rowS_step (a f t : Nat) (z : List Int) (h : a < z.length) : rowS a (f, t) ((zb z).drop a) = rowS (a + 1) (if 1 < runZ ((zb z).drop a) ∧ t - f < runZ ((zb z).drop a) then (a, a + runZ ((zb z).drop a)) else (f, t)) ((zb z).drop (a + 1)) := by
 rw [zb_drop z a h, rowS]
def rowW (r : Nat × Nat) : Value := .tuple #[.int .i64 (r.1 : Int), .int .i64 (r.2 : Int)]
theorem specRow (x0 x1 x2 x3 x4 x5 x6 x7 : Int) (w : World) :
  Calls Tryz.prog 92 #[.agg #[.int .i64 x0, .int .i64 x1, .int .i64 x2, .int .i64 x3, .int .i64 x4, .int .i64 x5, .int .i64 x6, .int .i64 x7]] w fun e w' => e = .returned (rowW (rowS 0 (8, 8) (zb [x0, x1, x2, x3, x4, x5, x6, x7]))) ∧ Below w.heap.size w w' := by
 have HC : Hid (∀ k, k < 8 → (w.alloc (.cells #[.int .i64 x0, .int .i64 x1, .int .i64 x2, .int .i64 x3, .int .i64 x4, .int .i64 x5, .int .i64 x6, .int .i64 x7] 65)).cell? ⟨w.heap.size, k, none⟩ = some (.int .i64 ([x0, x1, x2, x3, x4, x5, x6, x7].getD k 0))) := fun k hk => cell8 w x0 x1 x2 x3 x4 x5 x6 x7 k hk
 generalize hz : [x0, x1, x2, x3, x4, x5, x6, x7] = z at HC ⊢
 have hzl : z.length = 8 := by rw [← hz]; rfl
 clear hz
 have HZL : Hid (z.length = 8) := hzl
 clear hzl
 go_enter Tryz.func92, Tryz.ntmps92
 go_wp2
 go_loop [4, 5, 6] (fun x y i => ∃ a f t : Nat, a ≤ 8 ∧ i = .int .i64 a ∧ x = .int .i64 f ∧ y = .int .i64 t ∧ f ≤ t ∧ t ≤ 8 ∧ rowS a (f, t) ((zb z).drop a) = rowS 0 (8, 8) (zb z)) (fun _ _ i => 8 - (intOf i).toNat)
 case atStart => exact ⟨0, 8, 8, by omega, rfl, rfl, rfl, by omega, by omega, rfl⟩
 obtain ⟨a, f, t, ha, rfl, rfl, rfl, h1, h2, hr⟩ := hrel
 have HR : Hid (rowS a (f, t) ((zb z).drop a) = rowS 0 (8, 8) (zb z)) := hr
 clear hr
 by_cases hlt : a < 8
 ·have hai : (a : Int) < 8 := by omega
  have HS : Hid (_ = _) := rowS_step a f t z (by have := HZL.out; omega)
  go_wp2_with fail
  go_loop [7] (fun b => ∃ j : Nat, a ≤ j ∧ j ≤ 8 ∧ b = .int .i64 j ∧ j - a + runZ ((zb z).drop j) = runZ ((zb z).drop a)) (fun b => 8 - (intOf b).toNat)
  case atStart => exact ⟨a, by omega, by omega, rfl, by omega⟩
  obtain ⟨j, hj1, hj2, rfl, hz⟩ := hrel
  have HZ : Hid (j - a + runZ ((zb z).drop j) = runZ ((zb z).drop a)) := hz
  clear hz
  by_cases hjlt : j < 8
  ·have hc := HC.out j hjlt
   have HY : Hid (z.getD j 0 = 0 → runZ ((zb z).drop j) = runZ ((zb z).drop (j + 1)) + 1) := fun h => runZ_yes (by have := HZL.out; omega) h
   have HN : Hid (¬ z.getD j 0 = 0 → runZ ((zb z).drop j) = 0) := fun h => runZ_no (by have := HZL.out; omega) h
   have hji : (j : Int) < 8 := by omega
   generalize z.getD j 0 = y at hc HY HN
   by_cases hy : y = 0
   ·subst hy
    go_wp2_with fail
    go_round
    case rel => exact ⟨j + 1, by omega, by omega, by go_num, by have h1 := HZ.out; have h2 := HY.out rfl; omega⟩
    case measure => simp [intOf]; omega
   have HE : Hid (runZ ((zb z).drop a) = j - a) := by
    show _ = _
    have h1 := HZ.out
    have h2 := HN.out hy
    omega
   have hy' : (y == 0) = false := by simpa using hy
   clear hy
   by_cases hq : 1 < j - a ∧ t - f < j - a
   ·have HG : Hid (rowS (a + 1) (a, j) ((zb z).drop (a + 1)) = rowS 0 (8, 8) (zb z)) := by
     show _ = _
     rw [← HR.out, HS.out, HE.out, if_pos hq, show a + (j - a) = j by omega]
    have hq1 : 1 < (j : Int) - a := by omega
    have hq2 : (t : Int) - f < (j : Int) - a := by omega
    clear hq
    go_wp2_with fail
    go_round
    case rel => exact ⟨a + 1, a, j, by omega, by go_num, by go_num, by go_num, by omega, by omega, HG.out⟩
    case measure => simp [intOf]; omega
   have HG : Hid (rowS (a + 1) (f, t) ((zb z).drop (a + 1)) = rowS 0 (8, 8) (zb z)) := by
    show _ = _
    rw [← HR.out, HS.out, HE.out, if_neg hq]
   by_cases hq0 : 1 < j - a
   ·have hq1 : 1 < (j : Int) - a := by omega
    have hq2 : ¬ (t : Int) - f < (j : Int) - a := by omega
    clear hq hq0
    go_wp2_with fail
    go_round
    case rel => exact ⟨a + 1, f, t, by omega, by go_num, by go_num, by go_num, by omega, by omega, HG.out⟩
    case measure => simp [intOf]; omega
   have hq1 : ¬ 1 < (j : Int) - a := by omega
   clear hq hq0
   go_wp2_with fail
   go_round
   case rel => exact ⟨a + 1, f, t, by omega, by go_num, by go_num, by go_num, by omega, by omega, HG.out⟩
   case measure => simp [intOf]; omega
  have HE : Hid (runZ ((zb z).drop a) = j - a) := by
   show _ = _
   have h1 := HZ.out
   have h2 := runZ_end (z := z) (k := j) (by have := HZL.out; omega)
   omega
  have hji : ¬ (j : Int) < 8 := by omega
  by_cases hq : 1 < j - a ∧ t - f < j - a
  ·have HG : Hid (rowS (a + 1) (a, j) ((zb z).drop (a + 1)) = rowS 0 (8, 8) (zb z)) := by
    show _ = _
    rw [← HR.out, HS.out, HE.out, if_pos hq, show a + (j - a) = j by omega]
   have hq1 : 1 < (j : Int) - a := by omega
   have hq2 : (t : Int) - f < (j : Int) - a := by omega
   clear hq
   go_wp2_with fail
   go_round
   case rel => exact ⟨a + 1, a, j, by omega, by go_num, by go_num, by go_num, by omega, by omega, HG.out⟩
   case measure => simp [intOf]; omega
  have HG : Hid (rowS (a + 1) (f, t) ((zb z).drop (a + 1)) = rowS 0 (8, 8) (zb z)) := by
   show _ = _
   rw [← HR.out, HS.out, HE.out, if_neg hq]
  by_cases hq0 : 1 < j - a
  ·have hq1 : 1 < (j : Int) - a := by omega
   have hq2 : ¬ (t : Int) - f < (j : Int) - a := by omega
   clear hq hq0
   go_wp2_with fail
   go_round
   case rel => exact ⟨a + 1, f, t, by omega, by go_num, by go_num, by go_num, by omega, by omega, HG.out⟩
   case measure => simp [intOf]; omega
  have hq1 : ¬ 1 < (j : Int) - a := by omega
  clear hq hq0
  go_wp2_with fail
  go_round
  case rel => exact ⟨a + 1, f, t, by omega, by go_num, by go_num, by go_num, by omega, by omega, HG.out⟩
  case measure => simp [intOf]; omega
 have HG : Hid (rowS 0 (8, 8) (zb z) = (f, t)) := by
  show _ = _
  rw [← HR.out, zb_end z a (by have := HZL.out; omega)]
  rfl
 have hai : ¬ (a : Int) < 8 := by omega
 go_wp2_with fail
 go_ret2
 exact ⟨by rw [HG.out]; rfl, (Below.refl _ _).alloc (Nat.le_refl _) _⟩
def ip6L (z : List Int) : List UInt8 := if okG z = true then ip6T (z.map Int.toNat) (rowI 0 (0, 0, 0) (zb z)).1 (rowI 0 (0, 0, 0) (zb z)).2.1 else []
theorem row_ok (x0 x1 x2 x3 x4 x5 x6 x7 : Int) : rowOkB (zb [x0, x1, x2, x3, x4, x5, x6, x7]) = true := rows_ok _ _ _ _ _ _ _ _
theorem row_le {z : List Int} (h : rowOkB (zb z) = true) : (rowI 0 (0, 0, 0) (zb z)).1 ≤ (rowI 0 (0, 0, 0) (zb z)).2.1 ∧ (rowI 0 (0, 0, 0) (zb z)).2.1 ≤ 8 := by
 unfold rowOkB at h
 simp only [Bool.and_eq_true, decide_eq_true_eq] at h
 exact h.1
end Go.Proofs.YtidecdlaeomfoaaGreat
