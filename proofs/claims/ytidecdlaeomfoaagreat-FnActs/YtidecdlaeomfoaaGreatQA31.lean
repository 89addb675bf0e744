/- HostSpec2, UrlSpec2, HostSpec3. -/
import Derived.Test.YtidecdlaeomfoaaGreatQA30
set_option maxHeartbeats 4000000
set_option maxRecDepth 100000
namespace Go.Proofs.YtidecdlaeomfoaaGreat
open Go.RowKit
theorem specHostText (k n : Int) (s : ByteArray) (x0 x1 x2 x3 x4 x5 x6 x7 : Int) (w : World) (hs : s.size ≤ 1048576) :
  Calls Tryz.prog 66 #[.agg #[.int .i64 k, .string s, .int .i64 n, .int .i64 x0, .int .i64 x1, .int .i64 x2, .int .i64 x3, .int .i64 x4, .int .i64 x5, .int .i64 x6, .int .i64 x7]] w fun e w' => e = .returned (.string (hTx ⟨k, s, n, [x0, x1, x2, x3, x4, x5, x6, x7]⟩)) ∧ Below w.heap.size w w' := by
 have CO : Hid (∀ W, CB 68 #[.agg #[.int .i64 k, .string s, .int .i64 n, .int .i64 x0, .int .i64 x1, .int .i64 x2, .int .i64 x3, .int .i64 x4, .int .i64 x5, .int .i64 x6, .int .i64 x7]] W (.bool (hOk ⟨k, s, n, [x0, x1, x2, x3, x4, x5, x6, x7]⟩))) := fun W => specHostOk k n s x0 x1 x2 x3 x4 x5 x6 x7 W hs
 cases hok : hOk ⟨k, s, n, [x0, x1, x2, x3, x4, x5, x6, x7]⟩ with
 | false =>
  have HX : Hid (hTx ⟨k, s, n, [x0, x1, x2, x3, x4, x5, x6, x7]⟩ = ⟨#[]⟩) := hTx_no hok
  rw [hok] at CO
  clear hok
  go_enter Tryz.func66, Tryz.ntmps66
  go_wp2_with fail
  refine (CO.out _).mono ?_
  rintro e w1 ⟨rfl, b1⟩
  have HB1 : Hid (Below (w.alloc (.cells #[.int .i64 k, .string s, .int .i64 n, .int .i64 x0, .int .i64 x1, .int .i64 x2, .int .i64 x3, .int .i64 x4, .int .i64 x5, .int .i64 x6, .int .i64 x7] 67)).heap.size (w.alloc (.cells #[.int .i64 k, .string s, .int .i64 n, .int .i64 x0, .int .i64 x1, .int .i64 x2, .int .i64 x3, .int .i64 x4, .int .i64 x5, .int .i64 x6, .int .i64 x7] 67)) w1) := b1
  obtain ⟨c0, c1, c2, c3, c4, c5, c6, c7, c8, c9, c10⟩ := host_cells w w1 _ _ _ x0 x1 x2 x3 x4 x5 x6 x7 _ b1
  have B1 : Hid (Below w.heap.size w w1) := ((Below.refl _ w).alloc (Nat.le_refl _) _).trans (b1.mono (by simp))
  clear b1 HB1
  go_wp2_with fail
  go_ret
  exact ⟨by rw [HX.out]; rfl, B1.out⟩
 | true =>
  by_cases h1 : k = 1
  ·subst h1
   have HX : Hid (hTx ⟨1, s, n, [x0, x1, x2, x3, x4, x5, x6, x7]⟩ = s) := hTx1 hok
   rw [hok] at CO
   clear hok
   go_enter Tryz.func66, Tryz.ntmps66
   go_wp2_with fail
   refine (CO.out _).mono ?_
   rintro e w1 ⟨rfl, b1⟩
   have HB1 : Hid (Below (w.alloc (.cells #[.int .i64 1, .string s, .int .i64 n, .int .i64 x0, .int .i64 x1, .int .i64 x2, .int .i64 x3, .int .i64 x4, .int .i64 x5, .int .i64 x6, .int .i64 x7] 67)).heap.size (w.alloc (.cells #[.int .i64 1, .string s, .int .i64 n, .int .i64 x0, .int .i64 x1, .int .i64 x2, .int .i64 x3, .int .i64 x4, .int .i64 x5, .int .i64 x6, .int .i64 x7] 67)) w1) := b1
   obtain ⟨c0, c1, c2, c3, c4, c5, c6, c7, c8, c9, c10⟩ := host_cells w w1 _ _ _ x0 x1 x2 x3 x4 x5 x6 x7 _ b1
   have B1 : Hid (Below w.heap.size w w1) := ((Below.refl _ w).alloc (Nat.le_refl _) _).trans (b1.mono (by simp))
   clear b1 HB1
   go_wp2_with fail
   go_ret
   exact ⟨by rw [HX.out]; rfl, B1.out⟩
  by_cases h2 : k = 2
  ·subst h2
   have HX : Hid (hTx ⟨2, s, n, [x0, x1, x2, x3, x4, x5, x6, x7]⟩ = ip4T n) := hTx2 hok
   have hr : 0 ≤ n ∧ n < 4294967296 := by
    have h := hok
    rw [hOk2, Bool.and_eq_true] at h
    exact of_decide_eq_true h.1
   have CT : Hid (∀ W, CB 82 #[.int .i64 n] W (.string (ip4T n))) := fun W => specIp4Text n W hr.1 hr.2
   generalize ip4T n = T at CT HX
   rw [hok] at CO
   clear hok hr h1
   go_enter Tryz.func66, Tryz.ntmps66
   go_wp2_with fail
   refine (CO.out _).mono ?_
   rintro e w1 ⟨rfl, b1⟩
   have HB1 : Hid (Below (w.alloc (.cells #[.int .i64 2, .string s, .int .i64 n, .int .i64 x0, .int .i64 x1, .int .i64 x2, .int .i64 x3, .int .i64 x4, .int .i64 x5, .int .i64 x6, .int .i64 x7] 67)).heap.size (w.alloc (.cells #[.int .i64 2, .string s, .int .i64 n, .int .i64 x0, .int .i64 x1, .int .i64 x2, .int .i64 x3, .int .i64 x4, .int .i64 x5, .int .i64 x6, .int .i64 x7] 67)) w1) := b1
   obtain ⟨c0, c1, c2, c3, c4, c5, c6, c7, c8, c9, c10⟩ := host_cells w w1 _ _ _ x0 x1 x2 x3 x4 x5 x6 x7 _ b1
   have B1 : Hid (Below w.heap.size w w1) := ((Below.refl _ w).alloc (Nat.le_refl _) _).trans (b1.mono (by simp))
   clear b1 HB1
   go_wp2_with fail
   refine (CT.out _).mono ?_
   rintro e w2 ⟨rfl, b2⟩
   have B2 := B1.out.trans (b2.mono B1.out.size)
   clear b2
   go_wp2_with fail
   go_ret
   exact ⟨by rw [HX.out]; rfl, B2⟩
  by_cases h3 : k = 3
  ·subst h3
   have HX : Hid (hTx ⟨3, s, n, [x0, x1, x2, x3, x4, x5, x6, x7]⟩ = (⟨#[91]⟩ : ByteArray) ++ ⟨(ip6L [x0, x1, x2, x3, x4, x5, x6, x7]).toArray⟩ ++ (⟨#[93]⟩ : ByteArray)) := by
    show _ = _
    rw [hTx3 hok, six_text]
   have hr : okG [x0, x1, x2, x3, x4, x5, x6, x7] = true := by
    have h := hok
    rw [hOk3, Bool.and_eq_true] at h
    exact h.1
   have hl := six_len hr
   have CT : Hid (∀ W, CB 83 #[.agg #[.int .i64 x0, .int .i64 x1, .int .i64 x2, .int .i64 x3, .int .i64 x4, .int .i64 x5, .int .i64 x6, .int .i64 x7]] W (.string ⟨(ip6L [x0, x1, x2, x3, x4, x5, x6, x7]).toArray⟩)) := fun W => specIp6Text x0 x1 x2 x3 x4 x5 x6 x7 W
   generalize (⟨(ip6L [x0, x1, x2, x3, x4, x5, x6, x7]).toArray⟩ : ByteArray) = T at CT HX hl
   have e1 : (⟨#[91]⟩ : ByteArray).size = 1 := rfl
   have e2 : (⟨#[93]⟩ : ByteArray).size = 1 := rfl
   rw [hok] at CO
   clear hok hr h1 h2
   go_enter Tryz.func66, Tryz.ntmps66
   go_wp2_with fail
   refine (CO.out _).mono ?_
   rintro e w1 ⟨rfl, b1⟩
   have HB1 : Hid (Below (w.alloc (.cells #[.int .i64 3, .string s, .int .i64 n, .int .i64 x0, .int .i64 x1, .int .i64 x2, .int .i64 x3, .int .i64 x4, .int .i64 x5, .int .i64 x6, .int .i64 x7] 67)).heap.size (w.alloc (.cells #[.int .i64 3, .string s, .int .i64 n, .int .i64 x0, .int .i64 x1, .int .i64 x2, .int .i64 x3, .int .i64 x4, .int .i64 x5, .int .i64 x6, .int .i64 x7] 67)) w1) := b1
   obtain ⟨c0, c1, c2, c3, c4, c5, c6, c7, c8, c9, c10⟩ := host_cells w w1 _ _ _ x0 x1 x2 x3 x4 x5 x6 x7 _ b1
   have B1 : Hid (Below w.heap.size w w1) := ((Below.refl _ w).alloc (Nat.le_refl _) _).trans (b1.mono (by simp))
   clear b1 HB1
   go_wp2_with fail
   refine (CT.out _).mono ?_
   rintro e w2 ⟨rfl, b2⟩
   have B2 := B1.out.trans (b2.mono B1.out.size)
   clear b2
   go_wp2_with fail
   go_ret
   exact ⟨by rw [HX.out]; rfl, B2⟩
  rw [hOk0 k n s _ h1 h2 h3] at hok
  cases hok
theorem specScheme (s : Int) (w : World) :
  Calls Tryz.prog 65 #[.int .i64 s] w fun e w' => e = .returned (.string ⟨(schT s).toArray⟩) ∧ w = w' := by
 by_cases h1 : s = 1
 ·subst h1
  go_enter Tryz.func65, Tryz.ntmps65
  go_wp2
  go_ret
  exact ⟨rfl, rfl⟩
 have q1 : (s == 1) = false := beq_eq_false_iff_ne.2 h1
 have HD : Hid ((⟨(schT s).toArray⟩ : ByteArray) = ⟨#[104, 116, 116, 112, 115, 58]⟩) := by show _ = _; unfold schT; rw [if_neg h1]; rfl
 clear h1
 go_enter Tryz.func65, Tryz.ntmps65
 go_wp2
 go_ret
 exact ⟨ret_bytes HD.out.symm, rfl⟩
def restL (a : ByteArray) (q : Bool) (r : ByteArray) : List UInt8 := if q then toL a ++ 63 :: toL r else toL a
theorem specRest (s k n p : Int) (nm a r : ByteArray) (q : Bool) (x0 x1 x2 x3 x4 x5 x6 x7 : Int) (w : World) (ha : a.size ≤ 4194304) (hr : r.size ≤ 4194304) :
  Calls Tryz.prog 54 #[.agg #[.int .i64 s, .int .i64 k, .string nm, .int .i64 n, .int .i64 x0, .int .i64 x1, .int .i64 x2, .int .i64 x3, .int .i64 x4, .int .i64 x5, .int .i64 x6, .int .i64 x7, .int .i64 p, .string a, .bool q, .string r]] w fun e w' => e = .returned (.string ⟨(restL a q r).toArray⟩) ∧ Below w.heap.size w w' := by
 cases q with
 | true =>
  have HD : Hid (a ++ ⟨#[63]⟩ ++ r = ⟨(restL a true r).toArray⟩) := by
   apply toL_inj
   show toL (a ++ ⟨#[63]⟩ ++ r) = toL a ++ 63 :: toL r
   simp [toL]
  have hd1 : (⟨#[63]⟩ : ByteArray).size = 1 := rfl
  go_enter Tryz.func54, Tryz.ntmps54
  go_wp2
  go_ret
  exact ⟨ret_bytes HD.out, (Below.refl _ _).alloc (Nat.le_refl _) _⟩
 | false =>
  have HD : Hid (a = ⟨(restL a false r).toArray⟩) := toL_inj rfl
  go_enter Tryz.func54, Tryz.ntmps54
  go_wp2
  go_ret
  exact ⟨ret_bytes HD.out, (Below.refl _ _).alloc (Nat.le_refl _) _⟩
def dec5T (x : Int) : ByteArray := ⟨(dec5 x.toNat).toArray⟩
theorem dec5T_size (x : Int) : (dec5T x).size ≤ 5 := by
 show (dec5 x.toNat).toArray.size ≤ 5
 rw [List.size_toArray]
 unfold dec5
 split
 ·simp
 split
 ·simp
 split
 ·simp
 split <;> simp
theorem dec5T_step {x : Int} (h0 : 10 ≤ x) (h1 : x < 100000) : dec5T x = dec5T (x / 10) ++ digT (x % 10).toNat := by
 apply toL_inj
 show dec5 x.toNat = toL (dec5T (x / 10) ++ digT (x % 10).toNat)
 rw [dec5_step (by omega) (by omega), show x.toNat / 10 = (x / 10).toNat by omega, show x.toNat % 10 = (x % 10).toNat by omega]
 simp [toL, dec5T, digT, dgU]
theorem specText5s (x : Int) (h0 : 10 ≤ x) (h1 : x < 100000) (h : ∀ W, Calls Tryz.prog 67 #[.int .i64 (x / 10)] W fun e w' => e = .returned (.string (dec5T (x / 10))) ∧ Below W.heap.size W w') (w : World) :
  Calls Tryz.prog 67 #[.int .i64 x] w fun e w' => e = .returned (.string (dec5T x)) ∧ Below w.heap.size w w' :=
 specTextG x w _ _ h0 h1 (dec5T_size _) h (dec5T_step h0 h1)
theorem specText5a (x : Int) (h0 : 0 ≤ x) (h1 : x < 10) (w : World) : Calls Tryz.prog 67 #[.int .i64 x] w fun e w' => e = .returned (.string (dec5T x)) ∧ Below w.heap.size w w' := by
 have e : dec5T x = decT x := by
  unfold dec5T decT dec5 dec3
  rw [if_pos (by omega), if_pos (by omega)]
  rfl
 rw [e]
 exact specText1 x w h0 h1
theorem specText5 : ∀ (d : Nat) (x : Int), 0 ≤ x → x < 10 ^ (d + 1) → x < 100000 → ∀ w, Calls Tryz.prog 67 #[.int .i64 x] w fun e w' => e = .returned (.string (dec5T x)) ∧ Below w.heap.size w w'
 | 0, x, h0, h1, _, w => specText5a x h0 (by simpa using h1) w
 | d + 1, x, h0, h1, h2, w => by
  by_cases h : x < 10
  ·exact specText5a x h0 h w
  refine specText5s x (by omega) h2 (fun W => specText5 d (x / 10) (by omega) ?_ (by omega) W) w
  have : (10 : Int) ^ (d + 1 + 1) = 10 * 10 ^ (d + 1) := by rw [Int.pow_succ, Int.mul_comm]
  omega
theorem specPortText (x : Int) (w : World) (h0 : 0 ≤ x) (h1 : x < 100000) : Calls Tryz.prog 67 #[.int .i64 x] w fun e w' => e = .returned (.string (dec5T x)) ∧ Below w.heap.size w w' :=
 specText5 4 x h0 (by simpa using h1) h1 w
def orgF (s : Int) (H : ByteArray) (p : Int) : List UInt8 := schT s ++ 47 :: 47 :: (toL H ++ portT s p)
theorem schT_size (s : Int) : (⟨(schT s).toArray⟩ : ByteArray).size ≤ 6 := by
 show (schT s).toArray.size ≤ 6
 rw [List.size_toArray]
 unfold schT
 split <;> decide
theorem specOrigin (s k n p : Int) (nm a r : ByteArray) (q : Bool) (x0 x1 x2 x3 x4 x5 x6 x7 : Int) (w : World) (hs : nm.size ≤ 1048576) (hp0 : 0 ≤ p) (hp1 : p < 100000) :
  Calls Tryz.prog 53 #[.agg #[.int .i64 s, .int .i64 k, .string nm, .int .i64 n, .int .i64 x0, .int .i64 x1, .int .i64 x2, .int .i64 x3, .int .i64 x4, .int .i64 x5, .int .i64 x6, .int .i64 x7, .int .i64 p, .string a, .bool q, .string r]] w fun e w' => e = .returned (.string ⟨(orgF s (hTx ⟨k, nm, n, [x0, x1, x2, x3, x4, x5, x6, x7]⟩) p).toArray⟩) ∧ Below w.heap.size w w' := by
 have CS : Hid (∀ W, CS 65 #[.int .i64 s] W (.string ⟨(schT s).toArray⟩)) := fun W => specScheme s W
 have CH : Hid (∀ W, CB 66 #[.agg #[.int .i64 k, .string nm, .int .i64 n, .int .i64 x0, .int .i64 x1, .int .i64 x2, .int .i64 x3, .int .i64 x4, .int .i64 x5, .int .i64 x6, .int .i64 x7]] W (.string (hTx ⟨k, nm, n, [x0, x1, x2, x3, x4, x5, x6, x7]⟩))) := fun W => specHostText k n nm x0 x1 x2 x3 x4 x5 x6 x7 W hs
 have CD : Hid (∀ W, Calls Tryz.prog 48 #[.int .i64 s] W fun e w' => e = .returned (.int .i64 (dport s)) ∧ W = w') := fun W => specDefaultPort s W
 have CT : Hid (∀ W, CB 67 #[.int .i64 p] W (.string (dec5T p))) := fun W => specPortText p W hp0 hp1
 have hts := hTx_size (k := k) (n := n) (s := nm) (x0 := x0) (x1 := x1) (x2 := x2) (x3 := x3) (x4 := x4) (x5 := x5) (x6 := x6) (x7 := x7) hs
 have hss := schT_size s
 have hds := dec5T_size p
 generalize hTx ⟨k, nm, n, [x0, x1, x2, x3, x4, x5, x6, x7]⟩ = T at CH hts ⊢
 have H0 : Hid (portT s p = [] → (⟨(schT s).toArray⟩ : ByteArray) ++ ⟨#[47, 47]⟩ ++ T = ⟨(orgF s T p).toArray⟩) := fun h => by
  apply toL_inj
  show toL _ = orgF s T p
  unfold orgF
  rw [h]
  simp [toL]
 have H1 : Hid (portT s p = 58 :: dec5 p.toNat → (⟨(schT s).toArray⟩ : ByteArray) ++ ⟨#[47, 47]⟩ ++ T ++ ⟨#[58]⟩ ++ dec5T p = ⟨(orgF s T p).toArray⟩) := fun h => by
  apply toL_inj
  show toL _ = orgF s T p
  unfold orgF
  rw [h]
  simp [toL, dec5T]
 have HP : Hid ((p = dport s → portT s p = []) ∧ (¬ p = dport s → portT s p = 58 :: dec5 p.toNat)) := by
  unfold portT
  exact ⟨fun h => if_pos h, fun h => if_neg h⟩
 generalize (⟨(schT s).toArray⟩ : ByteArray) = S at CS hss H0 H1
 generalize dec5T p = D at CT hds H1
 generalize (⟨(orgF s T p).toArray⟩ : ByteArray) = Z at H0 H1 ⊢
 have HDP : Hid ((p = dport s) ∨ ¬ (p = dport s)) := Decidable.em _
 generalize dport s = dp at CD HP HDP
 generalize portT s p = pt at H0 H1 HP
 obtain ⟨O, hO⟩ : ∃ O, O = w.alloc (.cells #[.int .i64 s, .int .i64 k, .string nm, .int .i64 n, .int .i64 x0, .int .i64 x1, .int .i64 x2, .int .i64 x3, .int .i64 x4, .int .i64 x5, .int .i64 x6, .int .i64 x7, .int .i64 p, .string a, .bool q, .string r] 69) := ⟨_, rfl⟩
 have HU : Hid (UAt O w.heap.size (uRow s k nm n x0 x1 x2 x3 x4 x5 x6 x7 p a q r)) := by
  rw [hO]
  exact UAt.new w _ _
 have HB : Hid (Below w.heap.size w O) := by
  rw [hO]
  exact (Below.refl _ w).alloc (Nat.le_refl _) _
 go_enter Tryz.func53, Tryz.ntmps53
 go_upto_region 1 with fail
 rw [← hO]
 clear hO
 go_cut [3] (fun v wx => v = .string (S ++ ⟨#[47, 47]⟩ ++ T) ∧ Hid (UAt wx w.heap.size (uRow s k nm n x0 x1 x2 x3 x4 x5 x6 x7 p a q r)) ∧ Hid (Below w.heap.size w wx))
 case first =>
  have hu := HU.out.1
  have c0 := hu 0 _ rfl
  have c1 := hu 1 _ rfl
  have c2 := hu 2 _ rfl
  have c3 := hu 3 _ rfl
  have c4 := hu 4 _ rfl
  have c5 := hu 5 _ rfl
  have c6 := hu 6 _ rfl
  have c7 := hu 7 _ rfl
  have c8 := hu 8 _ rfl
  have c9 := hu 9 _ rfl
  have c10 := hu 10 _ rfl
  have c11 := hu 11 _ rfl
  clear hu
  have HUD : Hid (UAt O.drew w.heap.size (uRow s k nm n x0 x1 x2 x3 x4 x5 x6 x7 p a q r)) := HU.out
  have HBD : Hid (Below w.heap.size w O.drew) := HB.out.drew
  go_region_with (first | (go_at_call 65; refine (CS.out _).mono ?_; rintro e wq ⟨rfl, rfl⟩) | (go_at_call 66; refine (CH.out _).mono ?_; rintro e wq ⟨rfl, hbq⟩; have HUQ : Hid (UAt wq w.heap.size (uRow s k nm n x0 x1 x2 x3 x4 x5 x6 x7 p a q r)) := HUD.out.below hbq; have HBQ : Hid (Below w.heap.size w wq) := HBD.out.trans (hbq.mono HBD.out.size); have g0 := HUQ.out.1 0 _ rfl; clear hbq))
  all_goals go_wp2_with fail
  all_goals go_meet
  all_goals exact ⟨rfl, HUQ, HBQ⟩
 obtain ⟨rfl, HU2, HB2⟩ := hcut
 clear HU HB CS CH
 have hd2 : (⟨#[47, 47]⟩ : ByteArray).size = 2 := rfl
 have hs2 : (S ++ ⟨#[47, 47]⟩ ++ T).size ≤ 1048584 := by rw [ByteArray.size_append, ByteArray.size_append, hd2]; omega
 generalize S ++ ⟨#[47, 47]⟩ ++ T = S2 at hs2 H0 H1 ⊢
 clear hts hss hd2 hs
 have c0 := HU2.out.1 0 _ rfl
 have c12 := HU2.out.1 12 _ rfl
 go_upto_region 2 with fail
 have HUD : Hid (UAt wc.drew w.heap.size (uRow s k nm n x0 x1 x2 x3 x4 x5 x6 x7 p a q r)) := HU2.out
 have HBD : Hid (Below w.heap.size w wc.drew) := HB2.out.drew
 go_cut [17] (fun v wx => v = .bool (p != dp) ∧ Hid (UAt wx w.heap.size (uRow s k nm n x0 x1 x2 x3 x4 x5 x6 x7 p a q r)) ∧ Hid (Below w.heap.size w wx))
 case first =>
  go_region_with (go_at_call 48; refine (CD.out _).mono ?_; rintro e wq ⟨rfl, rfl⟩)
  all_goals go_wp2_with fail
  all_goals go_meet
  all_goals exact ⟨rfl, HUD, HBD⟩
 obtain ⟨rfl, HU3, HB3⟩ := hcut
 clear HUD HBD HU2 HB2 c0 c12 CD
 rcases HDP.out with h | h
 ·have hq : (p != dp) = false := by rw [h]; exact bne_self_eq_false _
  have HZ : Hid (S2 = Z) := H0.out (HP.out.1 h)
  rw [hq]
  clear H0 H1 HP hq HDP h CT
  go_wp2
  go_ret
  exact ⟨ret_bytes HZ.out, HB3.out⟩
 have hq : (p != dp) = true := bne_iff_ne.2 h
 have HZ : Hid (S2 ++ ⟨#[58]⟩ ++ D = Z) := H1.out (HP.out.2 h)
 rw [hq]
 have hd1 : (⟨#[58]⟩ : ByteArray).size = 1 := rfl
 have c12 := HU3.out.1 12 _ rfl
 clear H0 H1 HP hq HDP h
 go_wp2_with fail
 refine (CT.out _).mono ?_
 rintro e wd ⟨rfl, bd⟩
 have BD : Below w.heap.size w wd := HB3.out.trans (bd.mono HB3.out.size)
 clear bd c12
 go_wp2
 go_ret
 exact ⟨ret_bytes HZ.out, BD⟩
def NoneCells (W : World) (B : Nat) : Prop :=
 W.cell? ⟨B, 0, none⟩ = some (.int .i64 0) ∧ W.cell? ⟨B, 1, none⟩ = some (.string ⟨#[]⟩) ∧ W.cell? ⟨B, 2, none⟩ = some (.int .i64 0) ∧ W.cell? ⟨B, 3, none⟩ = some (.int .i64 0) ∧ W.cell? ⟨B, 4, none⟩ = some (.int .i64 0) ∧
 W.cell? ⟨B, 5, none⟩ = some (.int .i64 0) ∧ W.cell? ⟨B, 6, none⟩ = some (.int .i64 0) ∧ W.cell? ⟨B, 7, none⟩ = some (.int .i64 0) ∧ W.cell? ⟨B, 8, none⟩ = some (.int .i64 0) ∧ W.cell? ⟨B, 9, none⟩ = some (.int .i64 0) ∧ W.cell? ⟨B, 10, none⟩ = some (.int .i64 0)
def Laid3 (w W : World) : Prop := NoneCells W w.heap.size ∧ NoneCells W (w.heap.size + 1) ∧ ∀ j, W.frozen? ⟨w.heap.size, j, none⟩ = false
theorem laid3 (w W : World) (t : TypeId) (hb : Below ((w.alloc (.cells #[.int .i64 0, .string ⟨#[]⟩, .int .i64 0, .int .i64 0, .int .i64 0, .int .i64 0, .int .i64 0, .int .i64 0, .int .i64 0, .int .i64 0, .int .i64 0] t)).alloc (.cells #[.int .i64 0, .string ⟨#[]⟩, .int .i64 0, .int .i64 0, .int .i64 0, .int .i64 0, .int .i64 0, .int .i64 0, .int .i64 0, .int .i64 0, .int .i64 0] t)).heap.size ((w.alloc (.cells #[.int .i64 0, .string ⟨#[]⟩, .int .i64 0, .int .i64 0, .int .i64 0, .int .i64 0, .int .i64 0, .int .i64 0, .int .i64 0, .int .i64 0, .int .i64 0] t)).alloc (.cells #[.int .i64 0, .string ⟨#[]⟩, .int .i64 0, .int .i64 0, .int .i64 0, .int .i64 0, .int .i64 0, .int .i64 0, .int .i64 0, .int .i64 0, .int .i64 0] t)) W) : Laid3 w W := by
 have h1 := ((Below.refl _ (w.alloc (.cells #[.int .i64 0, .string ⟨#[]⟩, .int .i64 0, .int .i64 0, .int .i64 0, .int .i64 0, .int .i64 0, .int .i64 0, .int .i64 0, .int .i64 0, .int .i64 0] t))).alloc (Nat.le_refl _) (.cells #[.int .i64 0, .string ⟨#[]⟩, .int .i64 0, .int .i64 0, .int .i64 0, .int .i64 0, .int .i64 0, .int .i64 0, .int .i64 0, .int .i64 0, .int .i64 0] t)).trans (hb.mono (by simp))
 have h2 := host_cells _ W _ _ _ 0 0 0 0 0 0 0 0 t hb
 unfold HostCells at h2
 simp only [show (w.alloc (.cells #[.int .i64 0, .string ⟨#[]⟩, .int .i64 0, .int .i64 0, .int .i64 0, .int .i64 0, .int .i64 0, .int .i64 0, .int .i64 0, .int .i64 0, .int .i64 0] t)).heap.size = w.heap.size + 1 by simp] at h2
 exact ⟨host_cells w W _ _ _ 0 0 0 0 0 0 0 0 t h1, h2, host_frozen w W _ t h1⟩
theorem row_of_none {W : World} {B : Nat} (h : NoneCells W B) : RowIs W B (hRow 0 ⟨#[]⟩ 0 0 0 0 0 0 0 0 0) := by
 obtain ⟨c0, c1, c2, c3, c4, c5, c6, c7, c8, c9, c10⟩ := h
 intro j v hv
 match j, hv with
 | 0, hv => cases hv; exact c0
 | 1, hv => cases hv; exact c1
 | 2, hv => cases hv; exact c2
 | 3, hv => cases hv; exact c3
 | 4, hv => cases hv; exact c4
 | 5, hv => cases hv; exact c5
 | 6, hv => cases hv; exact c6
 | 7, hv => cases hv; exact c7
 | 8, hv => cases hv; exact c8
 | 9, hv => cases hv; exact c9
 | 10, hv => cases hv; exact c10
 | j + 11, hv => simp [hRow] at hv
theorem last_r {s : ByteArray} (h : 1 < s.size) : (s.extract 1 s.size).data.toList.getLast? = some (s[s.size - 1]'(by omega)) := by
 rw [extract_list, take_all s s.size (Nat.le_refl _), List.getLast?_drop, if_neg (by simp; omega)]
 exact last_at s (by omega)
theorem drop_r {s : ByteArray} (h : 1 < s.size) : (s.extract 1 s.size).data.toList.dropLast = (s.extract 1 (s.size - 1)).data.toList := by
 have hl : s.data.toList.length = s.size := by simp
 rw [extract_list, extract_list, take_all s s.size (Nat.le_refl _), List.dropLast_eq_take, List.length_drop, hl, List.take_drop, show 1 + (s.size - 1 - 1) = s.size - 1 by omega]
theorem nil_r {s : ByteArray} (h : ¬ 1 < s.size) : (s.extract 1 s.size).data.toList.getLast? = none := by
 have e : (s.extract 1 s.size).data.toList = [] := List.eq_nil_of_length_eq_zero (by simp; omega)
 rw [e]
 rfl
theorem row_arr {W : World} {B : Nat} {vs : List Value} (h : RowIs W B vs) {C : Nat} (hne : B ≠ C) (x0 x1 x2 x3 x4 x5 x6 x7 : Int) : RowIs ((((((((W.setCell ⟨C, 0, none⟩ (.int .i64 x0)).setCell ⟨C, 1, none⟩ (.int .i64 x1)).setCell ⟨C, 2, none⟩ (.int .i64 x2)).setCell ⟨C, 3, none⟩ (.int .i64 x3)).setCell ⟨C, 4, none⟩ (.int .i64 x4)).setCell ⟨C, 5, none⟩ (.int .i64 x5)).setCell ⟨C, 6, none⟩ (.int .i64 x6)).setCell ⟨C, 7, none⟩ (.int .i64 x7)) B vs :=
 (((((((h.other hne 0 _).other hne 1 _).other hne 2 _).other hne 3 _).other hne 4 _).other hne 5 _).other hne 6 _).other hne 7 _
theorem specParseHost0 (s : ByteArray) (w : World) (h0 : s.size = 0) :
  Calls Tryz.prog 51 #[.string s] w fun e w' => e = .returned (.tuple #[hostVal (rV (readH s)), .int .i64 (rC (readH s))]) ∧ Below w.heap.size w w' := by
 rw [readH_nil h0]
 show Calls _ _ _ _ fun e w' => e = .returned (.tuple #[.agg #[.int .i64 0, .string ⟨#[]⟩, .int .i64 0, .int .i64 0, .int .i64 0, .int .i64 0, .int .i64 0, .int .i64 0, .int .i64 0, .int .i64 0, .int .i64 0], .int .i64 1]) ∧ Below w.heap.size w w'
 have hem := empty_yes h0
 clear h0
 go_enter Tryz.func51, Tryz.ntmps51
 go_wp2_with fail
 go_returns
 exact ⟨rfl, by go_grown⟩
theorem specParseHostN (s : ByteArray) (w : World) (hs : s.size ≤ 1048576) (hp : 0 < s.size) (h9 : ¬ s[0].toNat = 91) :
  Calls Tryz.prog 51 #[.string s] w fun e w' => e = .returned (.tuple #[hostVal (rV (readH s)), .int .i64 (rC (readH s))]) ∧ Below w.heap.size w w' := by
 rw [readH_name hp h9]
 have hem := empty_no hp
 obtain ⟨d, hd⟩ : ∃ d : Nat, s[0].toNat = d := ⟨_, rfl⟩
 have q0 : ((d : Int) == 91) = false := beq_eq_false_iff_ne.2 (by omega)
 have hus := Nat.le_trans (unB_size s) hs
 obtain ⟨O, hO⟩ : ∃ O, O = (w.alloc (.cells #[.int .i64 0, .string ⟨#[]⟩, .int .i64 0, .int .i64 0, .int .i64 0, .int .i64 0, .int .i64 0, .int .i64 0, .int .i64 0, .int .i64 0, .int .i64 0] 67)).alloc (.cells #[.int .i64 0, .string ⟨#[]⟩, .int .i64 0, .int .i64 0, .int .i64 0, .int .i64 0, .int .i64 0, .int .i64 0, .int .i64 0, .int .i64 0, .int .i64 0] 67) := ⟨_, rfl⟩
 have HL : Hid (∀ W, Below O.heap.size O W → Laid3 w W) := fun W h => by rw [hO] at h; exact laid3 w W _ h
 have HE : Hid (∀ W, Below O.heap.size O W → Below w.heap.size w W) := fun W h => by
  rw [hO] at h
  exact (((Below.refl _ w).alloc (Nat.le_refl _) _).alloc (by simp) _).trans (h.mono (by simp; omega))
 have CU : Hid (Calls Tryz.prog 60 #[.string s] O fun e w' => e = .returned (.string (unB s)) ∧ Hid (Below O.heap.size O w')) := specUnpercent s O (by omega)
 have CN : Hid (∀ W, Below O.heap.size O W → Calls Tryz.prog 59 #[.string (unB s)] W fun e w' => e = .returned (ansS (nameL (unB s))) ∧ Hid (Below O.heap.size O w')) := fun W hb => (specNameOf (unB s) W hus).mono fun e w' h => ⟨h.1, hb.trans (h.2.mono hb.size)⟩
 have HZ0 : Hid (readN s = match nameL (unB s) with
  | none => .bad 3
  | some n => readM n) := rfl
 have HNL : Hid (∀ n, nameL (unB s) = some n → n.length ≤ 253) := fun n hn => (nameL_le hn)
 generalize unB s = u at CU CN HZ0 HNL
 clear hus h9
 cases hn : nameL u with
 | none =>
  have HZ : Hid (readN s = .bad 3) := by
   show _ = _
   rw [HZ0.out, hn]
  rw [HZ.out]
  show Calls _ _ _ _ fun e w' => e = .returned (.tuple #[.agg #[.int .i64 0, .string ⟨#[]⟩, .int .i64 0, .int .i64 0, .int .i64 0, .int .i64 0, .int .i64 0, .int .i64 0, .int .i64 0, .int .i64 0, .int .i64 0], .int .i64 3]) ∧ Below w.heap.size w w'
  rw [hn, show ansS none = .tuple #[.string ⟨#[]⟩, .bool false] from rfl] at CN
  clear hn HZ0 HNL HZ
  go_enter Tryz.func51, Tryz.ntmps51
  go_wp2_with fail
  rw [← hO]
  refine CU.out.mono ?_
  rintro e w1 ⟨rfl, b1⟩
  go_wp2_with fail
  refine (CN.out _ b1.out).mono ?_
  rintro e w2 ⟨rfl, b2⟩
  have hl3 := HL.out w2 b2.out
  have HR : Hid (RowIs w2 w.heap.size (hRow 0 ⟨#[]⟩ 0 0 0 0 0 0 0 0 0)) := row_of_none hl3.1
  have BW : Hid (Below w.heap.size w w2) := HE.out _ b2.out
  obtain ⟨⟨c0, c1, c2, c3, c4, c5, c6, c7, c8, c9, c10⟩, ⟨d0, d1, d2, d3, d4, d5, d6, d7, d8, d9, d10⟩, fz⟩ := hl3
  go_wp2_with fail
  refine bodyPost_ret (host_result2 rfl _ _ w.heap.size _ 0 0 ⟨#[]⟩ 0 0 0 0 0 0 0 0 rfl rfl (host_store HR.out 0 0 ⟨#[]⟩ 0 0 0 0 0 0 0 0)) rfl ⟨rfl, below_hstore BW.out (Nat.le_refl _) 0 0 ⟨#[]⟩ 0 0 0 0 0 0 0 0⟩
 | some n =>
  have hl := HNL.out n hn
  have HZ1 : Hid (readN s = readM n) := by
   show _ = _
   rw [HZ0.out, hn]
  rw [hn, show ansS (some n) = .tuple #[.string ⟨n.toArray⟩, .bool true] from rfl] at CN
  have hns : (⟨n.toArray⟩ : ByteArray).size ≤ 1048576 := by
   show n.toArray.size ≤ _
   rw [List.size_toArray]
   omega
  have CE : Hid (∀ W, Below O.heap.size O W → Calls Tryz.prog 61 #[.string ⟨n.toArray⟩] W fun e w' => e = .returned (.bool (endL ⟨n.toArray⟩)) ∧ Hid (Below O.heap.size O w')) := fun W hb => (specEndsInNumber _ W hns).mono fun e w' h => ⟨h.1, hb.trans (h.2.mono hb.size)⟩
  have CL : Hid (∀ W, Below O.heap.size O W → Calls Tryz.prog 62 #[.string ⟨n.toArray⟩] W fun e w' => e = .returned (numA (loA ⟨n.toArray⟩)) ∧ Hid (Below O.heap.size O w')) := fun W hb => (specLooseIp4 _ W hns).mono fun e w' h => ⟨h.1, hb.trans (h.2.mono hb.size)⟩
  have HM : Hid (readM n = if endL ⟨n.toArray⟩ = true then (match loA ⟨n.toArray⟩ with
   | none => .bad 4
   | some v => .fo v) else .nm n) := rfl
  have HMV : Hid (hostVal (rV (.nm n)) = .agg #[.int .i64 1, .string ⟨n.toArray⟩, .int .i64 0, .int .i64 0, .int .i64 0, .int .i64 0, .int .i64 0, .int .i64 0, .int .i64 0, .int .i64 0, .int .i64 0]) := rfl
  generalize (⟨n.toArray⟩ : ByteArray) = T at CN CE CL HM HMV
  clear hn HZ0 HNL hl hns
  cases he : endL T with
  | false =>
   have HZ : Hid (readN s = .nm n) := by
    show _ = _
    rw [HZ1.out, HM.out, he, if_neg (by decide)]
   rw [HZ.out, HMV.out, show rC (.nm n) = 0 from rfl]
   rw [he] at CE
   clear he HZ1 HM CL HZ HMV
   go_enter Tryz.func51, Tryz.ntmps51
   go_wp2_with fail
   rw [← hO]
   refine CU.out.mono ?_
   rintro e w1 ⟨rfl, b1⟩
   go_wp2_with fail
   refine (CN.out _ b1.out).mono ?_
   rintro e w2 ⟨rfl, b2⟩
   go_wp2_with fail
   refine (CE.out _ b2.out).mono ?_
   rintro e w3 ⟨rfl, b3⟩
   have hl3 := HL.out w3 b3.out
   have HR : Hid (RowIs w3 w.heap.size (hRow 0 ⟨#[]⟩ 0 0 0 0 0 0 0 0 0)) := row_of_none hl3.1
   have BW : Hid (Below w.heap.size w w3) := HE.out _ b3.out
   obtain ⟨⟨c0, c1, c2, c3, c4, c5, c6, c7, c8, c9, c10⟩, ⟨d0, d1, d2, d3, d4, d5, d6, d7, d8, d9, d10⟩, fz⟩ := hl3
   go_wp2_with fail
   refine bodyPost_ret (host_result2 rfl _ _ w.heap.size _ 1 0 T 0 0 0 0 0 0 0 0 rfl rfl (host_store HR.out 1 0 T 0 0 0 0 0 0 0 0)) rfl ⟨rfl, below_hstore BW.out (Nat.le_refl _) 1 0 T 0 0 0 0 0 0 0 0⟩
  | true =>
   rw [he] at CE
   cases hlo : loA T with
   | none =>
    have HZ : Hid (readN s = .bad 4) := by
     show _ = _
     rw [HZ1.out, HM.out, he, if_pos rfl, hlo]
    rw [HZ.out]
    show Calls _ _ _ _ fun e w' => e = .returned (.tuple #[.agg #[.int .i64 0, .string ⟨#[]⟩, .int .i64 0, .int .i64 0, .int .i64 0, .int .i64 0, .int .i64 0, .int .i64 0, .int .i64 0, .int .i64 0, .int .i64 0], .int .i64 4]) ∧ Below w.heap.size w w'
    rw [hlo, show numA none = .tuple #[.int .i64 0, .bool false] from rfl] at CL
    clear he hlo HZ1 HM HMV HZ
    go_enter Tryz.func51, Tryz.ntmps51
    go_wp2_with fail
    rw [← hO]
    refine CU.out.mono ?_
    rintro e w1 ⟨rfl, b1⟩
    go_wp2_with fail
    refine (CN.out _ b1.out).mono ?_
    rintro e w2 ⟨rfl, b2⟩
    go_wp2_with fail
    refine (CE.out _ b2.out).mono ?_
    rintro e w3 ⟨rfl, b3⟩
    go_wp2_with fail
    refine (CL.out _ b3.out).mono ?_
    rintro e w4 ⟨rfl, b4⟩
    have hl3 := HL.out w4 b4.out
    have HR : Hid (RowIs w4 w.heap.size (hRow 0 ⟨#[]⟩ 0 0 0 0 0 0 0 0 0)) := row_of_none hl3.1
    have BW : Hid (Below w.heap.size w w4) := HE.out _ b4.out
    obtain ⟨⟨c0, c1, c2, c3, c4, c5, c6, c7, c8, c9, c10⟩, ⟨d0, d1, d2, d3, d4, d5, d6, d7, d8, d9, d10⟩, fz⟩ := hl3
    go_wp2_with fail
    refine bodyPost_ret (host_result2 rfl _ _ w.heap.size _ 0 0 ⟨#[]⟩ 0 0 0 0 0 0 0 0 rfl rfl (host_store HR.out 0 0 ⟨#[]⟩ 0 0 0 0 0 0 0 0)) rfl ⟨rfl, below_hstore BW.out (Nat.le_refl _) 0 0 ⟨#[]⟩ 0 0 0 0 0 0 0 0⟩
   | some v =>
    have HZ : Hid (readN s = .fo v) := by
     show _ = _
     rw [HZ1.out, HM.out, he, if_pos rfl, hlo]
    rw [HZ.out]
    obtain ⟨y, hy⟩ : ∃ y : Int, (v : Int) = y := ⟨_, rfl⟩
    show Calls _ _ _ _ fun e w' => e = .returned (.tuple #[.agg #[.int .i64 2, .string ⟨#[]⟩, .int .i64 (v : Int), .int .i64 0, .int .i64 0, .int .i64 0, .int .i64 0, .int .i64 0, .int .i64 0, .int .i64 0, .int .i64 0], .int .i64 0]) ∧ Below w.heap.size w w'
    rw [hlo, show numA (some v) = .tuple #[.int .i64 (v : Int), .bool true] from rfl, hy] at CL
    rw [hy]
    clear he hlo HZ1 HM HMV HZ hy
    go_enter Tryz.func51, Tryz.ntmps51
    go_wp2_with fail
    rw [← hO]
    refine CU.out.mono ?_
    rintro e w1 ⟨rfl, b1⟩
    go_wp2_with fail
    refine (CN.out _ b1.out).mono ?_
    rintro e w2 ⟨rfl, b2⟩
    go_wp2_with fail
    refine (CE.out _ b2.out).mono ?_
    rintro e w3 ⟨rfl, b3⟩
    go_wp2_with fail
    refine (CL.out _ b3.out).mono ?_
    rintro e w4 ⟨rfl, b4⟩
    have hl3 := HL.out w4 b4.out
    have HR : Hid (RowIs w4 w.heap.size (hRow 0 ⟨#[]⟩ 0 0 0 0 0 0 0 0 0)) := row_of_none hl3.1
    have BW : Hid (Below w.heap.size w w4) := HE.out _ b4.out
    obtain ⟨⟨c0, c1, c2, c3, c4, c5, c6, c7, c8, c9, c10⟩, ⟨d0, d1, d2, d3, d4, d5, d6, d7, d8, d9, d10⟩, fz⟩ := hl3
    go_wp2_with fail
    refine bodyPost_ret (host_result2 rfl _ _ w.heap.size _ 2 y ⟨#[]⟩ 0 0 0 0 0 0 0 0 rfl rfl (host_store HR.out 2 y ⟨#[]⟩ 0 0 0 0 0 0 0 0)) rfl ⟨rfl, below_hstore BW.out (Nat.le_refl _) 2 y ⟨#[]⟩ 0 0 0 0 0 0 0 0⟩
end Go.Proofs.YtidecdlaeomfoaaGreat
