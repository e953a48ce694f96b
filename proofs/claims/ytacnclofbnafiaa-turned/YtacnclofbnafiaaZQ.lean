import Derived.Test.YtacnclofbnafiaaZ9
namespace Go.Proofs.Ytacnclofbnafiaa
open Go.RowKit Fl

/-- The place of 2^e. -/
def pw2 (e : Nat) : Int := ((e + 1022 : Nat) : Int) * 4503599627370496 + 4503599627370496
theorem Vk_pw2 (e : Nat) : Vk (pw2 e) = ((2 ^ (e + EE) : Nat) : Int) := by
  unfold pw2
  rw [Vk_of_nn (by omega)]
  have n : (((e + 1022 : Nat) : Int) * 4503599627370496 + 4503599627370496).natAbs = (e + 1022) * 4503599627370496 + 4503599627370496 := by omega
  rw [n, M_pow]
  have hE := EE_eq
  rw [show 52 + (e + 1022) = e + EE by omega]
theorem Vk_pw2_succ (e : Nat) : Vk (pw2 (e + 1)) = 2 * Vk (pw2 e) := by
  rw [Vk_pw2, Vk_pw2, show e + 1 + EE = (e + EE) + 1 by omega, Nat.pow_succ]
  omega
theorem pw2_bd (e : Nat) (h : e ≤ 1000) : 0 < pw2 e ∧ pw2 e < INF ∧ pw2 e ≤ hMax := by
  unfold pw2 hMax
  rw [INF_eq]
  omega
theorem pw2_mono {e g : Nat} (h : e ≤ g) : pw2 e ≤ pw2 g := by unfold pw2; omega
theorem leb {x y : Nat} {k l : Int} (hx : Key x k) (hy : Key y l) : (Ieee.double.order x y == some .lt || Ieee.double.order x y == some .eq) = decide (k ≤ l) := by
  rw [hx.order hy]
  rcases Int.lt_trichotomy k l with h | h | h
  · rw [Int.compare_eq_lt.2 h]; simp; omega
  · rw [Int.compare_eq_eq.2 h]; simp; omega
  · rw [Int.compare_eq_gt.2 h]; simp; omega
theorem leb_nan {x y : Nat} (hx : NaNw x) : (Ieee.double.order x y == some .lt || Ieee.double.order x y == some .eq) = false := by
  rw [hx.l]; rfl
theorem geb0 {x : Nat} {k : Int} (hx : Key x k) : (Ieee.double.order x 0 == some .gt || Ieee.double.order x 0 == some .eq) = decide (0 ≤ k) := by
  rw [ord0 hx]
  rcases Int.lt_trichotomy k 0 with h | h | h
  · rw [Int.compare_eq_lt.2 h]; simp; omega
  · rw [Int.compare_eq_eq.2 h]; simp; omega
  · rw [Int.compare_eq_gt.2 h]; simp; omega
theorem geb0_nan {x : Nat} (hx : NaNw x) : (Ieee.double.order x 0 == some .gt || Ieee.double.order x 0 == some .eq) = false := by
  rw [hx.l]; rfl
/-- Ldexp(1, n). -/
theorem ldexp_up (n : Nat) (hn : n ≤ 900) (i : Int) (hi : i = (n : Int)) : ∃ y, Key y (pw2 n) ∧ ∀ w, Calls Try.prog 79 #[.float .f64 4607182418800017408, .int .i64 i] w fun e w' => e = .returned (.float .f64 y) ∧ w' = w := by
  subst hi
  obtain ⟨y, l, c⟩ := Ldexp_any false 4607182418800017408 n (by omega) one_lt (by omega) (by omega)
  rw [oneW] at c
  refine ⟨_, ?_, c⟩
  have kk := key_word (sg := false) l.1
  rw [ix_false] at kk
  have l' : Faith (Rt (M 4607182418800017408 * 2 ^ (n : Int).toNat) (2 ^ (-(n : Int)).toNat)) y := l
  rw [show (n : Int).toNat = n by omega, show (-(n : Int)).toNat = 0 by omega, Nat.pow_zero, M_oneW] at l'
  have b := pw2_bd n (by omega)
  obtain ⟨f1, f2⟩ := l'.2 (pw2 n).natAbs (by omega)
  rw [Rt_nonneg, Nat.mul_one] at f1
  rw [Rt_nonpos, Nat.mul_one] at f2
  have v := Vk_pw2 n
  rw [Vk_of_nn (by omega)] at v
  have v' : M (pw2 n).natAbs = U * 2 ^ n := by
    have q : M (pw2 n).natAbs = 2 ^ (n + EE) := Int.ofNat.inj v
    rw [q, Nat.pow_add, Nat.mul_comm]; rfl
  have g1 := f1 (Nat.le_of_eq v')
  have g2 := f2 (Nat.le_of_eq v'.symm)
  rw [show pw2 n = ((y : Nat) : Int) by omega]
  exact kk
theorem ldexp300 : ∃ y, Key y (pw2 300) ∧ ∀ w, Calls Try.prog 79 #[.float .f64 4607182418800017408, .int .i64 300] w fun e w' => e = .returned (.float .f64 y) ∧ w' = w := ldexp_up 300 (by omega) 300 rfl
/-- Is a disc modest? -/
theorem modest_any {a b r : Nat} (ha : a < 18446744073709551616) (hb : b < 18446744073709551616) (hr : r < 18446744073709551616) :
    ∃ v : Bool, (v = true → ∃ x y t, DFin a b r x y t ∧ (x.natAbs : Int) ≤ pw2 300 ∧ (y.natAbs : Int) ≤ pw2 300 ∧ t ≤ pw2 300) ∧ ∀ w, Calls Try.prog 73 #[.agg #[.complex .f64 a b, .float .f64 r]] w fun e w' => e = .returned (.bool v) ∧ Below w.heap.size w w' := by
  obtain ⟨m, km, lm⟩ := ldexp300
  have hb300 := pw2_bd 300 (by omega)
  have hI := INF_pos
  have abw : ∀ z : Nat, z < 18446744073709551616 → ∃ z1, (∀ w, Calls Try.prog 53 #[.float .f64 z] w fun e w' => e = .returned (.float .f64 z1) ∧ w' = w) ∧ ((∃ k, Key z k ∧ Key z1 (k.natAbs : Int)) ∨ NaNw z1) := by
    intro z hz
    obtain ⟨s, q, rfl, hq⟩ := W_cases z hz
    rcases Nat.lt_or_ge INF q with g | g
    · exact ⟨_, abs_any s q hq, .inr ⟨false, q, rfl, g, hq⟩⟩
    · obtain ⟨z1, k1, c1⟩ := (key_word (sg := s) g).abs
      exact ⟨z1, c1, .inl ⟨_, key_word g, k1⟩⟩
  obtain ⟨x1, cx, wx⟩ := abw a ha
  obtain ⟨y1, cy, wy⟩ := abw b hb
  have no : ∀ {v : Bool} {P : Prop}, v = false → (v = true → P) := fun h h' => by rw [h] at h'; simp at h'
  rcases wx with ⟨k, ka, kx⟩ | n
  · have t1 := leb kx km
    by_cases c1 : (k.natAbs : Int) ≤ pw2 300
    · rw [decide_eq_true c1] at t1
      rcases wy with ⟨l, kb, ky⟩ | n
      · have t2 := leb ky km
        by_cases c2 : (l.natAbs : Int) ≤ pw2 300
        · rw [decide_eq_true c2] at t2
          rcases word_cases r hr with ⟨t, kr⟩ | n
          · have t3 := geb0 kr
            by_cases c3 : 0 ≤ t
            · rw [decide_eq_true c3] at t3
              have t4 := leb kr km
              by_cases c4 : t ≤ pw2 300
              · rw [decide_eq_true c4] at t4
                exact ⟨true, fun _ => ⟨k, l, t, ⟨ka, kb, kr, by unfold Fin; omega, by unfold Fin; omega, c3, by omega⟩, c1, c2, c4⟩, modest_5_w a b r m x1 y1 lm cx cy t1 t2 t3 t4⟩
              · rw [decide_eq_false c4] at t4
                exact ⟨false, no rfl, modest_4_w a b r m x1 y1 lm cx cy t1 t2 t3 t4⟩
            · rw [decide_eq_false c3] at t3
              exact ⟨false, no rfl, modest_3_w a b r m x1 y1 lm cx cy t1 t2 t3⟩
          · exact ⟨false, no rfl, modest_3_w a b r m x1 y1 lm cx cy t1 t2 (geb0_nan n)⟩
        · rw [decide_eq_false c2] at t2
          exact ⟨false, no rfl, modest_2_w a b r m x1 y1 lm cx cy t1 t2⟩
      · exact ⟨false, no rfl, modest_2_w a b r m x1 y1 lm cx cy t1 (leb_nan n)⟩
    · rw [decide_eq_false c1] at t1
      exact ⟨false, no rfl, modest_1_w a b r m x1 lm cx t1⟩
  · exact ⟨false, no rfl, modest_1_w a b r m x1 lm cx (leb_nan n)⟩
end Go.Proofs.Ytacnclofbnafiaa

namespace Go.Proofs.Ytacnclofbnafiaa
open Go.RowKit Fl

/-- An eighth of 2^-499, in units. -/
def T8 : Nat := 2 ^ (EE - 502)
theorem T8_U : (U : Int) = 8 * (T8 : Int) * ((2 ^ 499 : Nat) : Int) := by
  have hE := EE_eq
  obtain ⟨n, hn⟩ : ∃ n : Nat, n = 499 := ⟨_, rfl⟩
  have e : U = 8 * T8 * 2 ^ n := by
    unfold U T8
    rw [show (8 : Nat) = 2 ^ 3 from rfl, ← Nat.pow_add, ← Nat.pow_add]
    congr 1
    omega
  rw [← hn, e, Int.natCast_mul, Int.natCast_mul]
  rfl
theorem T8_big : (1267650600228229401496703205376 : Int) ≤ (T8 : Int) := by
  have k : 2 ^ 100 ≤ T8 := by
    unfold T8
    exact Nat.pow_le_pow_right (by decide) (by have := EE_eq; omega)
  have e : (2 : Nat) ^ 100 = 1267650600228229401496703205376 := by decide
  rw [e] at k
  omega
theorem bound_lin {V R l1 s1 S l2 s2 l3 s3 t : Int} (ht : 1267650600228229401496703205376 ≤ t) (hR : 0 ≤ R) (hS : 0 ≤ S)
    (a1 : R * 4503599627370496 ≤ l1 * 549755813888 * 4503599627370497 + 4503599627370496 * 549755813888) (a2 : (R + l1) * 4503599627370496 ≤ s1 * 1 * 4503599627370497 + 4503599627370496 * 1) (a3 : S * 4503599627370496 ≤ l2 * 549755813888 * 4503599627370497 + 4503599627370496 * 549755813888)
    (a4 : (s1 + l2) * 4503599627370496 ≤ s2 * 1 * 4503599627370497 + 4503599627370496 * 1) (a5 : 8 * t * 4503599627370496 ≤ l3 * 4503599627370497 + 4503599627370496) (a6 : (s2 + l3) * 4503599627370496 ≤ s3 * 1 * 4503599627370497 + 4503599627370496 * 1)
    (h : V * 17592186044416 ≤ R * 17592186044432 + S * 16 + 17592186044416 * t) : V ≤ s3 := by
  omega
theorem Nr.fin {E D s : Int} (h : Nr E D s) (j : Int) (j1 : -(INF : Int) ≤ j) (j2 : j ≤ INF) (e : E ≤ Vk j * D) : s ≤ j := (h j j1 j2).2 e
/-- The law's 'bound': it is true where there is room enough. -/
theorem bound_ok {v r m : Nat} {V R S : Int} (kv : Key v V) (kr : Key r R) (km : Key m S) (r0 : 0 ≤ R) (r1 : R ≤ pw2 800) (m0 : 0 ≤ S) (m1 : S ≤ pw2 800)
    (h : Vk V * 17592186044416 ≤ Vk R * 17592186044432 + Vk S * 16 + 17592186044416 * (T8 : Int)) :
    ∀ w, Calls Try.prog 81 #[.float .f64 v, .float .f64 r, .float .f64 m] w fun e w' => e = .returned (.bool true) ∧ Below w.heap.size w w' := by
  have hI := INF_pos
  have p0 := pw2_bd 800 (by omega)
  have p1 := pw2_bd 801 (by omega)
  have p2 := pw2_bd 802 (by omega)
  have p3 := pw2_bd 803 (by omega)
  have d0 : Vk (pw2 801) = 2 * Vk (pw2 800) := Vk_pw2_succ 800
  have d1 : Vk (pw2 802) = 2 * Vk (pw2 801) := Vk_pw2_succ 801
  have d2 : Vk (pw2 803) = 2 * Vk (pw2 802) := Vk_pw2_succ 802
  have e39 : ((2 ^ 39 : Nat) : Int) = 549755813888 := by decide
  have fr : Fin R := Fin.of r0 (by omega)
  have fm : Fin S := Fin.of m0 (by omega)
  have vR := Vk_nn r0
  have vS := Vk_nn m0
  have vR1 := Vk_le.2 r1
  have vS1 := Vk_le.2 m1
  obtain ⟨a, l1, k1, n1, c1⟩ := ldexp_key kr fr 39 (by omega)
  rw [e39] at n1
  have l10 := n1.nn vR
  have l11 : l1 ≤ R := n1.fin R (by omega) (by omega) (by omega)
  obtain ⟨b, s1, h1, ks1, ns1⟩ := own_add kr k1 fr.1 fr.2 (by omega) (by omega)
  have vl1 := Vk_nn l10
  have vl1' := Vk_le.2 l11
  have s10 := ns1.nn (by omega)
  have s11 : s1 ≤ pw2 801 := ns1.fin _ (by omega) (by omega) (by omega)
  obtain ⟨c, l2, k2, n2, c2⟩ := ldexp_key km fm 39 (by omega)
  rw [e39] at n2
  have l20 := n2.nn vS
  have l21 : l2 ≤ S := n2.fin S (by omega) (by omega) (by omega)
  obtain ⟨d, s2, h2, ks2, ns2⟩ := own_add ks1 k2 (by omega) (by omega) (by omega) (by omega)
  have vs1 := Vk_nn s10
  have vs1' := Vk_le.2 s11
  have vl2 := Vk_nn l20
  have vl2' := Vk_le.2 l21
  have s20 := ns2.nn (by omega)
  have s21 : s2 ≤ pw2 802 := ns2.fin _ (by omega) (by omega) (by omega)
  have o1 : Fin sOne := by unfold Fin sOne; rw [INF_eq]; omega
  have o0 : 0 ≤ sOne := by unfold sOne; omega
  have o8 : sOne ≤ pw2 802 := by unfold sOne pw2; omega
  have kone : Key 4607182418800017408 sOne := Key.word one_lt
  obtain ⟨g, l3, k3, n3, c3⟩ := ldexp_key kone o1 499 (by omega)
  have hU := U_posI
  have q499 : (0 : Int) < ((2 ^ 499 : Nat) : Int) := by have := Nat.two_pow_pos 499; omega
  rw [Vk_sOne] at n3
  have l30 := n3.nn (Int.le_of_lt hU)
  have l31 : l3 ≤ sOne := n3.fin sOne (Int.le_of_lt o1.1) (Int.le_of_lt o1.2) (by
    rw [Vk_sOne]
    have := Int.mul_le_mul_of_nonneg_left (show (1 : Int) ≤ ((2 ^ 499 : Nat) : Int) by omega) (Int.le_of_lt hU)
    omega)
  have lo1 := o1.2
  have a5 := n3.lo q499 (Int.le_of_lt hU) (by omega)
  rw [T8_U] at a5
  have a5' : 8 * (T8 : Int) * 4503599627370496 ≤ Vk l3 * 4503599627370497 + 4503599627370496 := by
    generalize ((2 ^ 499 : Nat) : Int) = Q at *
    have q : 8 * (T8 : Int) * 4503599627370496 * Q ≤ (Vk l3 * 4503599627370497 + 4503599627370496) * Q := by grind
    exact Int.le_of_mul_le_mul_right q q499
  obtain ⟨f, s3, h3, ks3, ns3⟩ := own_add ks2 k3 (by omega) (by omega) (by omega) (by omega)
  have vs2 := Vk_nn s20
  have vs2' := Vk_le.2 s21
  have vl3 := Vk_nn l30
  have vl3' := Vk_le.2 (show l3 ≤ pw2 802 by omega)
  have s31 : s3 ≤ pw2 803 := ns3.fin _ (by omega) (by omega) (by omega)
  have b1 := n1.lo (by omega) vR (by omega)
  have b2 := ns1.lo (by omega) (by omega) (by omega)
  have b3 := n2.lo (by omega) vS (by omega)
  have b4 := ns2.lo (by omega) (by omega) (by omega)
  have b6 := ns3.lo (by omega) (by omega) (by omega)
  have fin := bound_lin T8_big vR vS b1 b2 b3 b4 a5' b6 h
  have le := Vk_le.1 fin
  have o := kv.order ks3
  rcases Int.lt_or_eq_of_le le with z | z
  · rw [Int.compare_eq_lt.2 z] at o
    exact bound_lt_w v r m a b c d g f c1 h1 c2 h2 c3 h3 o
  · rw [Int.compare_eq_eq.2 z] at o
    exact bound_eq_w v r m a b c d g f c1 h1 c2 h2 c3 h3 o
end Go.Proofs.Ytacnclofbnafiaa

namespace Go.Proofs.Ytacnclofbnafiaa
open Go.RowKit Fl

/-- Twice a float. -/
theorem dbl_nat (r : Nat) : ∃ d, M d = 2 * M r ∧ d ≤ r + 4503599627370496 := by
  rcases Nat.lt_or_ge r 4503599627370496 with g | g
  · refine ⟨2 * r, ?_, by omega⟩
    have a := M_pack 0 (2 * r) (by omega) (.inr rfl)
    have b := M_pack 0 r (by omega) (.inr rfl)
    rw [Nat.zero_mul, Nat.zero_add, Nat.pow_zero, Nat.mul_one] at a b
    rw [a, b]
  · refine ⟨r + 4503599627370496, ?_, Nat.le_refl _⟩
    have m : mg (r + 4503599627370496) = mg r := by
      unfold mg
      rw [if_neg (by omega), if_neg (by omega)]
      omega
    have e : (r + 4503599627370496) / 4503599627370496 - 1 = (r / 4503599627370496 - 1) + 1 := by omega
    unfold M
    rw [m, e, Nat.pow_succ]
    generalize 2 ^ (r / 4503599627370496 - 1) = q
    rw [← Nat.mul_assoc, Nat.mul_comm]
theorem dbl {l : Int} (h1 : -hMax ≤ l) (h2 : l ≤ hMax) : ∃ j, Vk j = 2 * Vk l ∧ -(INF : Int) < j ∧ j < INF := by
  have hb : hMax + 4503599627370496 < INF := by unfold hMax; rw [INF_eq]; omega
  obtain ⟨d, e, b⟩ := dbl_nat l.natAbs
  rcases Int.lt_or_le l 0 with g | g
  · refine ⟨-(d : Int), ?_, by omega, by omega⟩
    rw [Vk_neg, Vk_of_nn (by omega), Int.natAbs_natCast, e, Vk_of_neg g]
    omega
  · refine ⟨(d : Int), ?_, by omega, by omega⟩
    rw [Vk_of_nn (by omega), Int.natAbs_natCast, e, Vk_of_nn g]
    omega
theorem MidOk.mid {k l u : Int} (h : MidOk k l u) (hkl : k ≤ l) (k1 : -hMax ≤ k) (l1 : l ≤ hMax) : k ≤ u ∧ u ≤ l := by
  have hb := hMax_bd
  have hv := Vk_le.2 hkl
  obtain ⟨j, e1, j1, j2⟩ := dbl k1 (by omega)
  obtain ⟨i, e2, i1, i2⟩ := dbl (show -hMax ≤ l by omega) l1
  cases h with
  | sum a _ _ b =>
    have s1 := (a j (by omega) (by omega)).1 (by omega)
    have s2 := (a i (by omega) (by omega)).2 (by omega)
    have v1 := Vk_le.2 s1
    have v2 := Vk_le.2 s2
    exact ⟨(b k (by omega) (by omega)).1 (by omega), (b l (by omega) (by omega)).2 (by omega)⟩
  | half a c _ _ _ =>
    exfalso
    have s1 := (a j (by omega) (by omega)).1 (by omega)
    have s2 := (a i (by omega) (by omega)).2 (by omega)
    omega
/-- DOWN and UP of a sum are near each other. -/
theorem rk_gap {E D P : Int} (h : Rk (Ep E) D P) (fd : Fin D) (fp : Fin P) : (Vk P - Vk D) * 4503599627370496 ≤ 2 * (E.natAbs : Int) + 3 * 4503599627370496 ∧ Vk D ≤ E ∧ E ≤ Vk P := by
  have hI := INF_pos
  have d1 := (h.dn.ok D fd.1 fd.2).2 (Int.le_refl _)
  have p1 := (h.up.ok P fp.1 fp.2).2 (Int.le_refl _)
  unfold Ep at d1 p1
  unfold Fin at fd fp
  refine ⟨?_, by omega, by omega⟩
  -- the places next to them are not so
  have dn : D + 1 < INF → E < Vk (D + 1) := fun c => by
    rcases Int.lt_or_le E (Vk (D + 1)) with g | g
    · exact g
    · have := (h.dn.ok (D + 1) (by omega) c).1 (by unfold Ep; omega)
      omega
  have up : -(INF : Int) < P - 1 → Vk (P - 1) < E := fun c => by
    rcases Int.lt_or_le (Vk (P - 1)) E with g | g
    · exact g
    · have := (h.up.ok (P - 1) c (by omega)).1 (by unfold Ep; omega)
      omega
  -- P is D or the place next to it
  have near : P ≤ D + 1 := by
    rcases Int.lt_or_le (D + 1) P with g | g
    · exfalso
      have a := dn (by omega)
      have b := up (by omega)
      have := Vk_lt.1 (show Vk (P - 1) < Vk (D + 1) by omega)
      omega
    · exact g
  have dp : D ≤ P := Vk_le.1 (by omega)
  rcases Int.lt_or_eq_of_le near with g | g
  · have : P = D := by omega
    rw [this]
    omega
  · rcases Int.lt_or_le D 0 with z | z
    · -- both below 0, or up to 0
      have st := Vk_step (j := -D) (by omega)
      have e1 : Vk (-D) = - Vk D := Vk_neg D
      have e2 : Vk (-D - 1) = - Vk P := by rw [show -D - 1 = -P by omega, Vk_neg]
      rw [e1, e2] at st
      have vp : Vk P ≤ 0 := by have := Vk_le.2 (show P ≤ 0 by omega); rwa [Vk_zero] at this
      omega
    · have st := Vk_step (j := P) (by omega)
      rw [show P - 1 = D by omega] at st
      have vd := Vk_nn z
      omega
end Go.Proofs.Ytacnclofbnafiaa

namespace Go.Proofs.Ytacnclofbnafiaa
open Go.RowKit Fl

theorem Vk_max (a b : Int) : Vk (max a b) = max (Vk a) (Vk b) := by
  rcases Int.le_total a b with h | h
  · have := Vk_le.2 h
    rw [show max a b = b by omega]; omega
  · have := Vk_le.2 h
    rw [show max a b = a by omega]; omega
/-- One side's reach, from above. -/
theorem Ops.reach_tight (F : Ops) {k l u : Int} (fk : Fin k) (fl : Fin l) (fu : Fin u) (h1 : k ≤ u) (h2 : u ≤ l) (h : max (F.aU l (-u)) (F.aU u (-k)) < INF) :
    0 ≤ max (F.aU l (-u)) (F.aU u (-k)) ∧ Vk (max (F.aU l (-u)) (F.aU u (-k))) * 4503599627370496 ≤ (Vk l - Vk k) * 4503599627370497 + 4503599627370496 := by
  have v1 := Vk_le.2 h1
  have v2 := Vk_le.2 h2
  have a := F.aU_tight fl fu.neg (by rw [Vk_neg]; omega) (by omega)
  have b := F.aU_tight fu fk.neg (by rw [Vk_neg]; omega) (by omega)
  rw [Vk_neg] at a b
  rw [Vk_max]
  omega
/-- What 'around' lays about a box, from above. -/
theorem Ard.tight {F : Ops} {k l m n u v c t : Int} (A : Ard F k l m n u v c) (hkl : k ≤ l) (hmn : m ≤ n) (k1 : -hMax ≤ k) (l1 : l ≤ hMax) (m1 : -hMax ≤ m) (n1 : n ≤ hMax) (pt : Pl t) (t0 : 0 ≤ t) (ht : F.aU c t < INF) :
    k ≤ u ∧ u ≤ l ∧ m ≤ v ∧ v ≤ n ∧ Vk c * 4503599627370496 ≤ (Vk l - Vk k + (Vk n - Vk m)) * 4503599627370512 + 4503599627370496 * (40 * (VV : Int) + 20) ∧ Vk (F.aU c t) * 4503599627370496 ≤ (Vk c + Vk t) * 4503599627370497 + 4503599627370496 := by
  obtain ⟨c1, t1, vc, vt, _, _⟩ := A.rad pt t0 ht
  obtain ⟨p1, p2⟩ := A.pl
  obtain ⟨pc, c0, g⟩ := A.len.ge p1 p2
  obtain ⟨q1, q2, q3, q4, _⟩ := g c1
  obtain ⟨a1, a2⟩ := A.mu.mid hkl k1 l1
  obtain ⟨b1, b2⟩ := A.mv.mid hmn m1 n1
  obtain ⟨r0, r1⟩ := F.reach_tight A.fk A.fl A.fu a1 a2 q2
  obtain ⟨s0, s1⟩ := F.reach_tight A.fm A.fn A.fv b1 b2 q4
  have w1 := Vk_nn r0
  have w2 := Vk_nn s0
  have V1 := VV_pos
  have x1 := Vk_le.2 hkl
  have x2 := Vk_le.2 hmn
  have L := A.len.tight ⟨q1, q2⟩ ⟨q3, q4⟩ c1 (H := Vk (max (F.aU l (-u)) (F.aU u (-k))) + Vk (max (F.aU n (-v)) (F.aU v (-m)))) (by omega) (by
    have := nn_mul w1 w2
    have e : (Vk (max (F.aU l (-u)) (F.aU u (-k))) + Vk (max (F.aU n (-v)) (F.aU v (-m)))) * (Vk (max (F.aU l (-u)) (F.aU u (-k))) + Vk (max (F.aU n (-v)) (F.aU v (-m)))) = Vk (max (F.aU l (-u)) (F.aU u (-k))) * Vk (max (F.aU l (-u)) (F.aU u (-k))) + Vk (max (F.aU n (-v)) (F.aU v (-m))) * Vk (max (F.aU n (-v)) (F.aU v (-m))) + 2 * (Vk (max (F.aU l (-u)) (F.aU u (-k))) * Vk (max (F.aU n (-v)) (F.aU v (-m)))) := by grind
    omega)
  refine ⟨a1, a2, b1, b2, ?_, (F.aU_tight (Fin.of c0 c1) (Fin.of t0 t1) (by omega) ht).2⟩
  generalize Vk (max (F.aU l (-u)) (F.aU u (-k))) = P at *
  generalize Vk (max (F.aU n (-v)) (F.aU v (-m))) = Q at *
  omega
end Go.Proofs.Ytacnclofbnafiaa

namespace Go.Proofs.Ytacnclofbnafiaa
open Go.RowKit Fl

theorem VV_small {z : Int} (hz : 2805742567851819008 ≤ z) : (40 * (VV : Int) + 1) * 4503599627370496 ≤ Vk z := by
  have h1 : Vk 2805742567851819008 ≤ Vk z := Vk_le.2 hz
  refine Int.le_trans ?_ h1
  rw [Vk_of_nn (by omega)]
  have e2 : (2805742567851819008 : Int).natAbs = 2805742567851819008 := rfl
  rw [e2]
  obtain ⟨g, hg⟩ : ∃ g : Nat, g = 622 := ⟨_, rfl⟩
  have h' := M_pow g
  rw [show g * 4503599627370496 + 4503599627370496 = 2805742567851819008 by rw [hg]] at h'
  rw [h']
  have c : ((40 * VV + 1 : Nat) : Int) = 40 * (VV : Int) + 1 := by
    clear h' hg
    omega
  have a : 40 * VV + 1 ≤ 64 * VV := by
    have v := VV_pos
    clear h' hg
    omega
  have k : (40 * VV + 1) * 4503599627370496 ≤ 2 ^ (52 + g) := by
    have hH := HE_eq
    calc (40 * VV + 1) * 4503599627370496 ≤ 64 * VV * 4503599627370496 := Nat.mul_le_mul_right _ a
      _ = 2 ^ 6 * 2 ^ HE * 2 ^ 52 := by unfold VV; rw [show (64 : Nat) = 2 ^ 6 from rfl, pow52]
      _ = 2 ^ (6 + HE + 52) := by rw [← Nat.pow_add, ← Nat.pow_add]
      _ ≤ 2 ^ (52 + g) := Nat.pow_le_pow_right (by decide) (by omega)
  have := Int.ofNat_le.2 k
  rw [Int.natCast_mul, c] at this
  exact this
/-- 'length' from above, whatever its size: two steps and a part in 2^49. -/
theorem LenOk.tight2 {F : Ops} {a b m H : Int} (fa : Fin a) (fb : Fin b) (h : LenOk F a b m) (hm : m < INF) (hH : 0 ≤ H) (hab : Vk a * Vk a + Vk b * Vk b ≤ H * H) :
    Vk m * 4503599627370496 ≤ H * 4503599627370503 + 2 * 4503599627370496 := by
  have hI := INF_pos
  have V1 := VV_pos
  have hU := U_posI
  have sq : ∀ z : Int, Vk (z.natAbs : Int) * Vk (z.natAbs : Int) = Vk z * Vk z := fun z => by
    rcases Int.le_total 0 z with g | g
    · rw [show (z.natAbs : Int) = z by omega]
    · rw [show (z.natAbs : Int) = -z by omega, Vk_neg, Int.neg_mul_neg]
  have fa' : Fin (a.natAbs : Int) := by unfold Fin at *; omega
  have fb' : Fin (b.natAbs : Int) := by unfold Fin at *; omega
  have hab' : Vk (a.natAbs : Int) * Vk (a.natAbs : Int) + Vk (b.natAbs : Int) * Vk (b.natAbs : Int) ≤ H * H := by rw [sq, sq]; exact hab
  have n1 := mul_self_nn (Vk (a.natAbs : Int))
  have n2 := mul_self_nn (Vk (b.natAbs : Int))
  have la : Vk (a.natAbs : Int) ≤ H := le_of_sq hH (by omega)
  have lb : Vk (b.natAbs : Int) ≤ H := le_of_sq hH (by omega)
  have p1 : Fin sOne ∧ 0 < sOne := by unfold Fin sOne; rw [INF_eq]; omega
  have p2 : Fin sLo ∧ 0 < sLo := by unfold Fin sLo; rw [INF_eq]; omega
  have p3 : Fin sHi ∧ 0 < sHi := by unfold Fin sHi; rw [INF_eq]; omega
  cases h with
  | l _ => omega
  | r _ => omega
  | one h0 h1 _ h3 =>
    have q := LenOk.tight fa fb (LenOk.one (F := F) h0 h1 (by assumption) h3) hm hH hab
    have z : (40 * (VV : Int) + 1) * 4503599627370496 ≤ H := by
      rcases Int.le_total (a.natAbs : Int) b.natAbs with g | g
      · exact Int.le_trans (VV_small (z := (b.natAbs : Int)) (by omega)) lb
      · exact Int.le_trans (VV_small (z := (a.natAbs : Int)) (by omega)) la
    omega
  | big h0 h1 h2 =>
    have q := F.len_tight fa' fb' p2.1 p3.1 (by omega) (by omega) p2.2 p3.2 Vk_sLoHi hH hab' hm
    have z : 40 * (VV : Int) * Vk sHi * 4503599627370496 ≤ H * (U : Int) := by
      rcases Int.le_total (a.natAbs : Int) b.natAbs with g | g
      · exact Int.le_trans (hi_small (z := (b.natAbs : Int)) (by omega)) (mul_mono_r lb (Int.le_of_lt hU))
      · exact Int.le_trans (hi_small (z := (a.natAbs : Int)) (by omega)) (mul_mono_r la (Int.le_of_lt hU))
    have q2 : Vk (F.len sLo sHi a.natAbs b.natAbs) * (4503599627370496 * 4503599627370496 * 4503599627370496 * 4503599627370496) * (U : Int) ≤ (H * (4503599627370497 * 4503599627370497 * 4503599627370497 * 4503599627370497) + H * (4503599627370496 * 4503599627370496 * 4503599627370496) + 4503599627370496 * 4503599627370496 * 4503599627370496 * 4503599627370496) * (U : Int) := by grind
    have q3 := Int.le_of_mul_le_mul_right q2 hU
    omega
  | small h0 h1 _ =>
    have q := F.len_tight fa' fb' p3.1 p2.1 (by omega) (by omega) p3.2 p2.2 (by rw [Int.mul_comm]; exact Vk_sLoHi) hH hab' hm
    have z := lo_small
    have q2 : Vk (F.len sHi sLo a.natAbs b.natAbs) * (4503599627370496 * 4503599627370496 * 4503599627370496 * 4503599627370496) * (U : Int) ≤ (H * (4503599627370497 * 4503599627370497 * 4503599627370497 * 4503599627370497) + 2 * (4503599627370496 * 4503599627370496 * 4503599627370496 * 4503599627370496)) * (U : Int) := by grind
    have q3 := Int.le_of_mul_le_mul_right q2 hU
    omega
/-- .. and they stay within a bound that what is exact keeps. -/
theorem rk_within {E Q D P j : Int} {f : Int → Int} (hf : ∀ v, f v = E - v * Q) (h : Rk f D P) (j0 : 0 < j) (j1 : j < INF) (h1 : E ≤ Vk j * Q) (h2 : -(Vk j * Q) ≤ E) : -j ≤ D ∧ P ≤ j ∧ D < INF ∧ -(INF : Int) < P := by
  have a := (h.dn.ok (-j) (by omega) (by omega)).1 (by rw [hf, Vk_neg, Int.neg_mul]; omega)
  have b := (h.up.ok j (by omega) j1).1 (by rw [hf]; omega)
  exact ⟨a, b, h.dn.hi, h.up.lo⟩
end Go.Proofs.Ytacnclofbnafiaa

namespace Go.Proofs.Ytacnclofbnafiaa
open Go.RowKit Fl

end Go.Proofs.Ytacnclofbnafiaa

namespace Go.Proofs.Ytacnclofbnafiaa
open Go.RowKit Fl

theorem Vk_abs {x : Int} {e : Nat} (h : (x.natAbs : Int) ≤ pw2 e) : Vk x ≤ Vk (pw2 e) ∧ -Vk (pw2 e) ≤ Vk x := by
  have a := Vk_le.2 (show x ≤ pw2 e by omega)
  have b := Vk_le.2 (show -pw2 e ≤ x by omega)
  rw [Vk_neg] at b
  exact ⟨a, b⟩
theorem Ops.a_within (F : Ops) {a b : Int} {e : Nat} (fa : Fin a) (fb : Fin b) (h1 : (a.natAbs : Int) ≤ pw2 e) (h2 : (b.natAbs : Int) ≤ pw2 e) (hs : e ≤ 900) :
    -pw2 (e + 1) ≤ F.aD a b ∧ F.aD a b ≤ F.aU a b ∧ F.aU a b ≤ pw2 (e + 1) ∧ Fin (F.aD a b) ∧ Fin (F.aU a b) := by
  have R := (F.add fa.pl fb.pl).num fa.1 fa.2 fb.1 fb.2
  have p := pw2_bd (e + 1) (by omega)
  have va := Vk_abs h1
  have vb := Vk_abs h2
  have d := Vk_pw2_succ e
  have hf : ∀ v, Ep (Vk a + Vk b) v = Vk a + Vk b - v * 1 := fun v => by unfold Ep; omega
  generalize pw2 (e + 1) = j at *
  have z1 : Vk a + Vk b ≤ Vk j * 1 := by omega
  have z2 : -(Vk j * 1) ≤ Vk a + Vk b := by omega
  obtain ⟨w1, w2, w3, w4⟩ := rk_within hf R p.1 p.2.1 z1 z2
  have le := R.le (Ep_anti _)
  exact ⟨w1, le, w2, by unfold Fin; omega, by unfold Fin; omega⟩
end Go.Proofs.Ytacnclofbnafiaa
