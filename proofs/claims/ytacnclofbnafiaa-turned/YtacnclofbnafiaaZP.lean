import Derived.Test.YtacnclofbnafiaaYA
namespace Go.Proofs.Ytacnclofbnafiaa
open Go.RowKit Fl

-- how far UP is from what is exact: a part in 2^52, and one step
theorem M_step (r : Nat) : M (r + 1) * 4503599627370496 ≤ M r * 4503599627370497 + 4503599627370496 := by
  have h := M_succ r
  rcases Nat.lt_or_ge r 4503599627370496 with g | g
  · have e : r / 4503599627370496 - 1 = 0 := by omega
    rw [e, Nat.pow_zero] at h
    omega
  · have h2 : 4503599627370496 * 2 ^ (r / 4503599627370496 - 1) ≤ M r := by
      unfold M
      exact Nat.mul_le_mul_right _ (mg_ge r g)
    generalize 2 ^ (r / 4503599627370496 - 1) = q at *
    omega
theorem Vk_step {j : Int} (h : 1 ≤ j) : Vk j * 4503599627370496 ≤ Vk (j - 1) * 4503599627370497 + 4503599627370496 := by
  rw [Vk_of_nn (by omega), Vk_of_nn (by omega)]
  have := M_step (j - 1).natAbs
  rw [show (j - 1).natAbs + 1 = j.natAbs by omega] at this
  omega
/-- UP of what is exact, E / D (not below 0). -/
theorem up_tight {E D P : Int} {e : Int → Int} (hD : 0 < D) (he : ∀ v, e v = E - v * D) (hE : 0 ≤ E) (u : UpK e P) (hP : P < INF) : 0 ≤ P ∧ Vk P * D * 4503599627370496 ≤ E * 4503599627370497 + 4503599627370496 * D := by
  have hI := INF_pos
  have p0 : 0 ≤ P := by
    rcases Int.lt_or_le P 0 with g | g
    · exfalso
      have := (u.ok P u.lo hP).2 (Int.le_refl _)
      rw [he] at this
      have v := Vk_lt.2 g
      rw [Vk_zero] at v
      have := Int.mul_neg_of_neg_of_pos v hD
      omega
    · exact g
  refine ⟨p0, ?_⟩
  rcases Int.lt_or_eq_of_le p0 with g | g
  · have nle : ¬ e (Vk (P - 1)) ≤ 0 := fun c => by
      have := (u.ok (P - 1) (by omega) (by omega)).1 c
      omega
    rw [he] at nle
    have s := Vk_step (show 1 ≤ P by omega)
    have s' := Int.mul_le_mul_of_nonneg_right s (Int.le_of_lt hD)
    have e1 : Vk P * 4503599627370496 * D = Vk P * D * 4503599627370496 := by grind
    have e2 : (Vk (P - 1) * 4503599627370497 + 4503599627370496) * D = Vk (P - 1) * D * 4503599627370497 + 4503599627370496 * D := by grind
    rw [e1, e2] at s'
    omega
  · rw [← g, Vk_zero]
    omega
theorem Ops.aU_tight (F : Ops) {k l : Int} (hk : Fin k) (hl : Fin l) (h0 : 0 ≤ Vk k + Vk l) (h : F.aU k l < INF) : 0 ≤ F.aU k l ∧ Vk (F.aU k l) * 4503599627370496 ≤ (Vk k + Vk l) * 4503599627370497 + 4503599627370496 := by
  have u := ((F.add hk.pl hl.pl).num hk.1 hk.2 hl.1 hl.2).up
  have := up_tight (E := Vk k + Vk l) (D := 1) (by omega) (fun v => by unfold Ep; omega) h0 u h
  omega
theorem Ops.mU_tight (F : Ops) {k l : Int} (hk : Fin k) (hl : Fin l) (h0 : 0 ≤ Vk k * Vk l) (h : F.mU k l < INF) : 0 ≤ F.mU k l ∧ Vk (F.mU k l) * (U : Int) * 4503599627370496 ≤ Vk k * Vk l * 4503599627370497 + 4503599627370496 * (U : Int) := by
  have u := ((F.mul hk.pl hl.pl).num hk.1 hk.2 hl.1 hl.2).up
  exact up_tight (E := Vk k * Vk l) (D := (U : Int)) U_posI (fun v => rfl) h0 u h
/-- UP of a root: R, above r with r * r < k * U. -/
theorem Ops.sU_tight (F : Ops) {k : Int} (hk : 0 ≤ k) (hk' : k < INF) (h : F.sU k < INF) : 0 ≤ F.sU k ∧ ∃ r, 0 ≤ r ∧ r * r ≤ Vk k * (U : Int) ∧ Vk (F.sU k) * 4503599627370496 ≤ r * 4503599627370497 + 4503599627370496 := by
  have hI := INF_pos
  have pk : Pl k := by unfold Pl; omega
  have u := ((F.sqrt pk hk).num hk hk').up
  have p0 := (F.sU_fin pk hk).1
  refine ⟨p0, ?_⟩
  rcases Int.lt_or_eq_of_le p0 with g | g
  · have nle : ¬ Er (Vk k * (U : Int)) (Vk (F.sU k - 1)) ≤ 0 := fun c => by
      have := (u.ok (F.sU k - 1) (by omega) (by omega)).1 c
      omega
    have v0 := Vk_nn (show 0 ≤ F.sU k - 1 by omega)
    unfold Er at nle
    rw [if_neg (by omega)] at nle
    exact ⟨Vk (F.sU k - 1), v0, by omega, Vk_step (by omega)⟩
  · refine ⟨0, by omega, ?_, ?_⟩
    · have := Int.mul_nonneg (Vk_nn hk) (Int.le_of_lt U_posI)
      omega
    · rw [← g, Vk_zero]; omega
end Go.Proofs.Ytacnclofbnafiaa

namespace Go.Proofs.Ytacnclofbnafiaa
open Go.RowKit Fl

theorem mul_mono_r {a b c : Int} (h : a ≤ b) (hc : 0 ≤ c) : a * c ≤ b * c := Int.mul_le_mul_of_nonneg_right h hc
theorem nn_mul {a b : Int} (ha : 0 ≤ a) (hb : 0 ≤ b) : 0 ≤ a * b := Int.mul_nonneg ha hb
/-- The reckoning behind 'length', from above: V * V = U, c: a part in c is lost in each step, d = c + 1. -/
theorem len_up {A B S S' A1 B1 Q1 Q2 T r R L U V H c d : Int} (hc : 2 ≤ c) (hd : d = c + 1) (hU : 0 < U) (hV : 1 ≤ V) (hVU : V * V = U) (hS : 0 ≤ S) (hS' : 0 ≤ S') (hA1 : 0 ≤ A1) (hB1 : 0 ≤ B1) (hH : 0 ≤ H)
    (hAB : A * A + B * B ≤ H * H) (h1 : A1 * U * c ≤ A * S * d + c * U) (h2 : B1 * U * c ≤ B * S * d + c * U) (h3 : Q1 * U * c ≤ A1 * A1 * d + c * U) (h4 : Q2 * U * c ≤ B1 * B1 * d + c * U)
    (h5 : T * c ≤ (Q1 + Q2) * d + c) (h6 : r * r ≤ T * U) (h6' : R * c ≤ r * d + c) (h7 : L * U * c ≤ R * S' * d + c * U) (h8 : S * S' = U * U) :
    L * U * (c * c * c * c) ≤ H * U * (d * d * d * d) + 40 * V * (c * c * c * c) * S' + c * c * c * c * U := by
  have c0 : 0 ≤ c := by omega
  have d0 : 0 ≤ d := by omega
  have U0 : 0 ≤ U := by omega
  have V0 : 0 ≤ V := by omega
  -- the two sides, scaled
  have s1 : A * S * d * (A * S * d) + B * S * d * (B * S * d) ≤ H * S * d * (H * S * d) := by
    have e1 : A * S * d * (A * S * d) + B * S * d * (B * S * d) = (A * A + B * B) * (S * d * (S * d)) := by grind
    have e2 : H * S * d * (H * S * d) = H * H * (S * d * (S * d)) := by grind
    rw [e1, e2]
    exact mul_mono_r hAB (mul_self_nn _)
  have s2 : c * U * (c * U) + c * U * (c * U) ≤ 2 * (c * U) * (2 * (c * U)) := by
    have := mul_self_nn (c * U)
    have e : 2 * (c * U) * (2 * (c * U)) = 4 * (c * U * (c * U)) := by grind
    omega
  have s3 := tri (nn_mul (nn_mul hH hS) d0) (show 0 ≤ 2 * (c * U) by have := nn_mul c0 U0; omega) s1 s2
  have x1 := sq_mono (nn_mul (nn_mul hA1 U0) c0) h1
  have x2 := sq_mono (nn_mul (nn_mul hB1 U0) c0) h2
  obtain ⟨X, hX⟩ : ∃ X, X = A1 * U * c := ⟨_, rfl⟩
  obtain ⟨Y, hY⟩ : ∃ Y, Y = B1 * U * c := ⟨_, rfl⟩
  obtain ⟨H1, hH1⟩ : ∃ H1, H1 = H * S * d + 2 * (c * U) := ⟨_, rfl⟩
  have H10 : 0 ≤ H1 := by have := nn_mul (nn_mul hH hS) d0; have := nn_mul c0 U0; omega
  rw [← hX] at x1
  rw [← hY] at x2
  rw [← hH1] at s3
  have s4 : X * X + Y * Y ≤ H1 * H1 := by omega
  -- the root
  obtain ⟨W, hW⟩ : ∃ W, W = 3 * (c * c) * U * V := ⟨_, rfl⟩
  have W0 : 0 ≤ W := by rw [hW]; exact nn_mul (nn_mul (nn_mul (by omega) (nn_mul c0 c0)) U0) V0
  have z1 : r * U * (c * c) * (r * U * (c * c)) ≤ H1 * d * (H1 * d) + W * W := by
    have e0 : r * U * (c * c) * (r * U * (c * c)) = r * r * (U * U * (c * c * c * c)) := by grind
    have m0 := mul_mono_r h6 (nn_mul (nn_mul U0 U0) (nn_mul (nn_mul (nn_mul c0 c0) c0) c0))
    have e1 : T * U * (U * U * (c * c * c * c)) = T * c * (U * U * U * (c * c * c)) := by grind
    have m1 := mul_mono_r h5 (nn_mul (nn_mul (nn_mul U0 U0) U0) (nn_mul (nn_mul c0 c0) c0))
    have e2 : ((Q1 + Q2) * d + c) * (U * U * U * (c * c * c)) = (Q1 * U * c + Q2 * U * c) * (d * (U * U * (c * c))) + c * c * c * c * (U * U * U) := by grind
    have m2 : (Q1 * U * c + Q2 * U * c) * (d * (U * U * (c * c))) ≤ (A1 * A1 * d + c * U + (B1 * B1 * d + c * U)) * (d * (U * U * (c * c))) := mul_mono_r (by omega) (nn_mul d0 (nn_mul (nn_mul U0 U0) (nn_mul c0 c0)))
    have e3 : (A1 * A1 * d + c * U + (B1 * B1 * d + c * U)) * (d * (U * U * (c * c))) = (X * X + Y * Y) * (d * d) + 2 * (c * c * c * d) * (U * U * U) := by rw [hX, hY]; grind
    have m3 := mul_mono_r s4 (mul_self_nn d)
    have e4 : H1 * H1 * (d * d) = H1 * d * (H1 * d) := by grind
    have e5 : W * W = 9 * (c * c * c * c) * (U * U * U) := by
      rw [hW]
      have : 3 * (c * c) * U * V * (3 * (c * c) * U * V) = 9 * (c * c * c * c) * (U * U * (V * V)) := by grind
      rw [this, hVU]
    have m4 : 2 * (c * c * c * d) * (U * U * U) + c * c * c * c * (U * U * U) ≤ 9 * (c * c * c * c) * (U * U * U) := by
      have k : c * c * c * d ≤ c * c * c * (2 * c) := Int.mul_le_mul_of_nonneg_left (by omega) (nn_mul (nn_mul c0 c0) c0)
      have k2 : c * c * c * (2 * c) = 2 * (c * c * c * c) := by grind
      have k3 : 0 ≤ c * c * c * c := nn_mul (nn_mul (nn_mul c0 c0) c0) c0
      rw [← Int.add_mul]
      exact mul_mono_r (by omega) (nn_mul (nn_mul U0 U0) U0)
    rw [e0, e5]
    rw [e1] at m0
    rw [e2] at m1
    rw [e3] at m2
    rw [e4] at m3
    omega
  have z2 : r * U * (c * c) ≤ H1 * d + W := by
    refine le_of_sq (by have := nn_mul H10 d0; omega) ?_
    have e : (H1 * d + W) * (H1 * d + W) = H1 * d * (H1 * d) + W * W + 2 * (H1 * d * W) := by grind
    have := nn_mul (nn_mul H10 d0) W0
    omega
  -- back
  have q1 : R * (U * (c * c * c)) ≤ (H1 * d + W) * d + U * (c * c * c) := by
    have m := mul_mono_r h6' (nn_mul U0 (nn_mul c0 c0))
    have e1 : R * c * (U * (c * c)) = R * (U * (c * c * c)) := by grind
    have e2 : (r * d + c) * (U * (c * c)) = r * U * (c * c) * d + U * (c * c * c) := by grind
    have m2 := mul_mono_r z2 d0
    omega
  have q2 : L * U * (c * c * c * c) * U ≤ (H * U * (d * d * d * d) + 40 * V * (c * c * c * c) * S' + c * c * c * c * U) * U := by
    have m := mul_mono_r h7 (nn_mul U0 (nn_mul (nn_mul c0 c0) c0))
    have e1 : L * U * c * (U * (c * c * c)) = L * U * (c * c * c * c) * U := by grind
    have e2 : (R * S' * d + c * U) * (U * (c * c * c)) = R * (U * (c * c * c)) * (S' * d) + c * c * c * c * (U * U) := by grind
    have m2 := mul_mono_r q1 (nn_mul hS' d0)
    have e3 : ((H1 * d + W) * d + U * (c * c * c)) * (S' * d) = H * (S * S') * (d * d * d * d) + (2 * (c * (d * d * d)) + 3 * (c * c * (d * d)) * V + c * c * c * d) * (S' * U) := by rw [hH1, hW]; grind
    have k1 : d * d ≤ 4 * (c * c) := by
      have := sq_mono d0 (show d ≤ 2 * c by omega)
      have e : 2 * c * (2 * c) = 4 * (c * c) := by grind
      omega
    have k2 : 2 * (c * (d * d * d)) + 3 * (c * c * (d * d)) * V + c * c * c * d ≤ 40 * V * (c * c * c * c) := by
      have a1 : c * (d * d * d) ≤ 8 * (c * c * c * c) := by
        have b1 := mul_mono_r k1 (nn_mul d0 c0)
        have b2 : 4 * (c * c) * (d * c) ≤ 4 * (c * c) * (2 * c * c) := Int.mul_le_mul_of_nonneg_left (mul_mono_r (by omega) c0) (by have := nn_mul c0 c0; omega)
        have e1 : d * d * (d * c) = c * (d * d * d) := by grind
        have e2 : 4 * (c * c) * (2 * c * c) = 8 * (c * c * c * c) := by grind
        omega
      have a2 : c * c * (d * d) ≤ 4 * (c * c * c * c) := by
        have b1 := Int.mul_le_mul_of_nonneg_left k1 (nn_mul c0 c0)
        have e1 : c * c * (4 * (c * c)) = 4 * (c * c * c * c) := by grind
        omega
      have a3 : c * c * c * d ≤ 2 * (c * c * c * c) := by
        have b1 : c * c * c * d ≤ c * c * c * (2 * c) := Int.mul_le_mul_of_nonneg_left (by omega) (nn_mul (nn_mul c0 c0) c0)
        have e1 : c * c * c * (2 * c) = 2 * (c * c * c * c) := by grind
        omega
      have a2' := mul_mono_r a2 V0
      have C0 : 0 ≤ c * c * c * c := nn_mul (nn_mul (nn_mul c0 c0) c0) c0
      have a4 := Int.mul_le_mul_of_nonneg_left hV C0
      have e1 : 3 * (c * c * (d * d)) * V = 3 * (c * c * (d * d) * V) := by grind
      have e2 : 4 * (c * c * c * c) * V = 4 * (c * c * c * c * V) := by grind
      have e3 : 40 * V * (c * c * c * c) = 40 * (c * c * c * c * V) := by grind
      omega
    have m3 := mul_mono_r k2 (nn_mul hS' U0)
    have e4 : (H * U * (d * d * d * d) + 40 * V * (c * c * c * c) * S' + c * c * c * c * U) * U = H * (U * U) * (d * d * d * d) + 40 * V * (c * c * c * c) * (S' * U) + c * c * c * c * (U * U) := by grind
    rw [e1, e2] at m
    rw [e3, h8] at m2
    rw [e4]
    omega
  exact Int.le_of_mul_le_mul_right q2 hU
end Go.Proofs.Ytacnclofbnafiaa

namespace Go.Proofs.Ytacnclofbnafiaa
open Go.RowKit Fl

def HE : Nat := 537
theorem HE_eq : HE = 537 := rfl
/-- The root of U. -/
def VV : Nat := 2 ^ HE
theorem VV_sq : VV * VV = U := by
  unfold VV U
  rw [← Nat.pow_add]
  congr 1
theorem VV_pos : 1 ≤ VV := Nat.one_le_two_pow
theorem pow52 : 4503599627370496 = 2 ^ 52 := by decide
/-- M of a power of 2. -/
theorem M_pow (e : Nat) : M (e * 4503599627370496 + 4503599627370496) = 2 ^ (52 + e) := by
  have h := M_pack e 4503599627370496 (by decide) (.inl (by decide))
  rw [h, Nat.pow_add]
theorem Vk_sOne : Vk sOne = (U : Int) := by
  unfold sOne
  rw [Vk_of_nn (by omega)]
  have e : (4607182418800017408 : Int).natAbs = 4607182418800017408 := rfl
  rw [e, M_oneW]
theorem Vk_sLoHi : Vk sLo * Vk sHi = (U : Int) * U := by
  unfold sLo sHi
  rw [Vk_of_nn (by omega), Vk_of_nn (by omega)]
  have e1 : (1905022642377719808 : Int).natAbs = 1905022642377719808 := rfl
  have e2 : (7309342195222315008 : Int).natAbs = 7309342195222315008 := rfl
  rw [e1, e2, ← Int.natCast_mul, U_sq, Int.natCast_mul]
theorem lo_small : 40 * (VV : Int) * Vk sLo ≤ (U : Int) := by
  unfold sLo
  rw [Vk_of_nn (by omega)]
  have e1 : (1905022642377719808 : Int).natAbs = 1905022642377719808 := rfl
  rw [e1]
  obtain ⟨e, he⟩ : ∃ e : Nat, e = 422 := ⟨_, rfl⟩
  have h := M_pow e
  rw [show e * 4503599627370496 + 4503599627370496 = 1905022642377719808 by rw [he]] at h
  rw [h]
  have k : 40 * VV * 2 ^ (52 + e) ≤ U := by
    unfold VV U
    have hE := EE_eq
    have hH := HE_eq
    calc 40 * 2 ^ HE * 2 ^ (52 + e) ≤ 2 ^ 6 * 2 ^ HE * 2 ^ (52 + e) := Nat.mul_le_mul_right _ (Nat.mul_le_mul_right _ (by decide))
      _ = 2 ^ (6 + HE + (52 + e)) := by rw [← Nat.pow_add, ← Nat.pow_add]
      _ ≤ 2 ^ EE := Nat.pow_le_pow_right (by decide) (by omega)
  have := Int.ofNat_le.2 k
  rw [Int.natCast_mul, Int.natCast_mul] at this
  exact this
theorem hi_small {z : Int} (hz : 6858982232485265408 < z) : 40 * (VV : Int) * Vk sHi * 4503599627370496 ≤ Vk z * (U : Int) := by
  have h1 : Vk 6858982232485265408 ≤ Vk z := Vk_le.2 (by omega)
  refine Int.le_trans ?_ (mul_mono_r h1 (Int.le_of_lt U_posI))
  unfold sHi
  rw [Vk_of_nn (by omega), Vk_of_nn (by omega)]
  have e1 : (7309342195222315008 : Int).natAbs = 7309342195222315008 := rfl
  have e2 : (6858982232485265408 : Int).natAbs = 6858982232485265408 := rfl
  rw [e1, e2]
  obtain ⟨e, he⟩ : ∃ e : Nat, e = 1622 := ⟨_, rfl⟩
  obtain ⟨g, hg⟩ : ∃ g : Nat, g = 1522 := ⟨_, rfl⟩
  have h := M_pow e
  have h' := M_pow g
  rw [show e * 4503599627370496 + 4503599627370496 = 7309342195222315008 by rw [he]] at h
  rw [show g * 4503599627370496 + 4503599627370496 = 6858982232485265408 by rw [hg]] at h'
  rw [h, h']
  have k : 40 * VV * 2 ^ (52 + e) * 4503599627370496 ≤ 2 ^ (52 + g) * U := by
    unfold VV U
    have hE := EE_eq
    have hH := HE_eq
    calc 40 * 2 ^ HE * 2 ^ (52 + e) * 4503599627370496 ≤ 2 ^ 6 * 2 ^ HE * 2 ^ (52 + e) * 2 ^ 52 := Nat.mul_le_mul (Nat.mul_le_mul_right _ (Nat.mul_le_mul_right _ (by decide))) (by decide)
      _ = 2 ^ (6 + HE + (52 + e) + 52) := by rw [← Nat.pow_add, ← Nat.pow_add, ← Nat.pow_add]
      _ ≤ 2 ^ (52 + g + EE) := Nat.pow_le_pow_right (by decide) (by omega)
      _ = 2 ^ (52 + g) * 2 ^ EE := by rw [Nat.pow_add]
  have := Int.ofNat_le.2 k
  rw [Int.natCast_mul, Int.natCast_mul, Int.natCast_mul, Int.natCast_mul] at this
  exact this
theorem Ops.len_tight (F : Ops) {s s' a b H : Int} (fa : Fin a) (fb : Fin b) (fs : Fin s) (fs' : Fin s') (a0 : 0 < a) (b0 : 0 < b) (s0 : 0 < s) (s0' : 0 < s') (e : Vk s * Vk s' = (U : Int) * U) (hH : 0 ≤ H) (hab : Vk a * Vk a + Vk b * Vk b ≤ H * H) (h : F.len s s' a b < INF) :
    Vk (F.len s s' a b) * (U : Int) * (4503599627370496 * 4503599627370496 * 4503599627370496 * 4503599627370496) ≤ H * (U : Int) * (4503599627370497 * 4503599627370497 * 4503599627370497 * 4503599627370497) + 40 * (VV : Int) * (4503599627370496 * 4503599627370496 * 4503599627370496 * 4503599627370496) * Vk s' + 4503599627370496 * 4503599627370496 * 4503599627370496 * 4503599627370496 * (U : Int) := by
  have hI := INF_pos
  have pa := (F.mul_pl fa.pl fs.pl).2
  have pb := (F.mul_pl fb.pl fs.pl).2
  obtain ⟨a1, ga⟩ := F.mU_fin fa.pl fs.pl a0 s0
  obtain ⟨b1, gb⟩ := F.mU_fin fb.pl fs.pl b0 s0
  have pa2 := (F.mul_pl pa pa).2
  have pb2 := (F.mul_pl pb pb).2
  obtain ⟨a2, ga2⟩ := F.mU_fin pa pa a1 a1
  obtain ⟨b2, gb2⟩ := F.mU_fin pb pb b1 b1
  have pt := (F.add_pl pa2 pb2).2
  have t0 := F.aU_nn pa2 pb2 (by omega) (by omega)
  have pr := (F.sqrt_pl pt t0).2
  have r0 := (F.sU_fin pt t0).1
  have len : F.len s s' a b = F.mU (F.sU (F.aU (F.mU (F.mU a s) (F.mU a s)) (F.mU (F.mU b s) (F.mU b s)))) s' := rfl
  -- nothing on the way is without end
  have r1 : F.sU (F.aU (F.mU (F.mU a s) (F.mU a s)) (F.mU (F.mU b s) (F.mU b s))) < INF := by
    rcases Int.lt_or_eq_of_le r0 with g | g
    · exact ((F.mU_fin pr fs'.pl g s0').2 (len ▸ h)).1
    · omega
  have t1 := ((F.sU_fin pt t0).2 r1).1
  obtain ⟨q1, q2, _, _⟩ := F.aU_fin pa2 pb2 (by omega) (by omega) t1
  obtain ⟨p1, _, _⟩ := ga2 q1
  obtain ⟨p2, _, _⟩ := gb2 q2
  have f1 : Fin (F.mU a s) := Fin.of (by omega) p1
  have f2 : Fin (F.mU b s) := Fin.of (by omega) p2
  have f3 : Fin (F.mU (F.mU a s) (F.mU a s)) := Fin.of (by omega) q1
  have f4 : Fin (F.mU (F.mU b s) (F.mU b s)) := Fin.of (by omega) q2
  have f6 : Fin (F.sU (F.aU (F.mU (F.mU a s) (F.mU a s)) (F.mU (F.mU b s) (F.mU b s)))) := Fin.of r0 r1
  have va := Vk_nn (Int.le_of_lt a0)
  have vb := Vk_nn (Int.le_of_lt b0)
  have vs := Vk_nn (Int.le_of_lt s0)
  have vs' := Vk_nn (Int.le_of_lt s0')
  have va1 := Vk_nn (Int.le_of_lt a1)
  have vb1 := Vk_nn (Int.le_of_lt b1)
  have h1 := (F.mU_tight fa fs (nn_mul va vs) p1).2
  have h2 := (F.mU_tight fb fs (nn_mul vb vs) p2).2
  have h3 := (F.mU_tight f1 f1 (nn_mul va1 va1) q1).2
  have h4 := (F.mU_tight f2 f2 (nn_mul vb1 vb1) q2).2
  have va2 := Vk_nn (Int.le_of_lt a2)
  have vb2 := Vk_nn (Int.le_of_lt b2)
  have h5 := (F.aU_tight f3 f4 (by omega) t1).2
  obtain ⟨_, r, rr, h6, h6'⟩ := F.sU_tight t0 t1 r1
  have h7 := (F.mU_tight f6 fs' (nn_mul (Vk_nn r0) vs') (len ▸ h)).2
  have V1 := VV_pos
  have VU : (VV : Int) * VV = (U : Int) := by rw [← Int.natCast_mul, VV_sq]
  exact len_up (c := 4503599627370496) (d := 4503599627370497) (by omega) (by omega) U_posI (by omega) VU vs vs' va1 vb1 hH hab h1 h2 h3 h4 h5 h6 h6' h7 e
theorem LenOk.tight {F : Ops} {a b m H : Int} (fa : Fin a) (fb : Fin b) (h : LenOk F a b m) (hm : m < INF) (hH : 0 ≤ H) (hab : Vk a * Vk a + Vk b * Vk b ≤ H * H) :
    Vk m * 4503599627370496 ≤ H * 4503599627370502 + 4503599627370496 * (40 * (VV : Int) + 1) := by
  have hI := INF_pos
  have V1 := VV_pos
  have hU := U_posI
  have sq : ∀ z : Int, Vk (z.natAbs : Int) * Vk (z.natAbs : Int) = Vk z * Vk z := fun z => by
    rcases Int.le_total 0 z with g | g
    · rw [show (z.natAbs : Int) = z by omega]
    · rw [show (z.natAbs : Int) = -z by omega, Vk_neg, Int.neg_mul_neg]
  have fa' : Fin (a.natAbs : Int) := by unfold Fin at *; omega
  have fb' : Fin (b.natAbs : Int) := by unfold Fin at *; omega
  have hab' : Vk (a.natAbs : Int) * Vk (a.natAbs : Int) + Vk (b.natAbs : Int) * Vk (b.natAbs : Int) ≤ H * H := by rw [sq, sq]; exact hab
  have n1 := mul_self_nn (Vk (a.natAbs : Int))
  have n2 := mul_self_nn (Vk (b.natAbs : Int))
  have la : Vk (a.natAbs : Int) ≤ H := le_of_sq hH (by omega)
  have lb : Vk (b.natAbs : Int) ≤ H := le_of_sq hH (by omega)
  have p1 : Fin sOne ∧ 0 < sOne := by unfold Fin sOne; rw [INF_eq]; omega
  have p2 : Fin sLo ∧ 0 < sLo := by unfold Fin sLo; rw [INF_eq]; omega
  have p3 : Fin sHi ∧ 0 < sHi := by unfold Fin sHi; rw [INF_eq]; omega
  cases h with
  | l _ => omega
  | r _ => omega
  | one h0 h1 _ _ =>
    have q := F.len_tight fa' fb' p1.1 p1.1 (by omega) (by omega) p1.2 p1.2 (by rw [Vk_sOne]) hH hab' hm
    rw [Vk_sOne] at q
    have q2 : Vk (F.len sOne sOne a.natAbs b.natAbs) * (4503599627370496 * 4503599627370496 * 4503599627370496 * 4503599627370496) * (U : Int) ≤ (H * (4503599627370497 * 4503599627370497 * 4503599627370497 * 4503599627370497) + (40 * (VV : Int) + 1) * (4503599627370496 * 4503599627370496 * 4503599627370496 * 4503599627370496)) * (U : Int) := by grind
    have q3 := Int.le_of_mul_le_mul_right q2 hU
    omega
  | big h0 h1 h2 =>
    have q := F.len_tight fa' fb' p2.1 p3.1 (by omega) (by omega) p2.2 p3.2 Vk_sLoHi hH hab' hm
    have z : 40 * (VV : Int) * Vk sHi * 4503599627370496 ≤ H * (U : Int) := by
      rcases Int.le_total (a.natAbs : Int) b.natAbs with g | g
      · exact Int.le_trans (hi_small (z := (b.natAbs : Int)) (by omega)) (mul_mono_r lb (Int.le_of_lt hU))
      · exact Int.le_trans (hi_small (z := (a.natAbs : Int)) (by omega)) (mul_mono_r la (Int.le_of_lt hU))
    have q2 : Vk (F.len sLo sHi a.natAbs b.natAbs) * (4503599627370496 * 4503599627370496 * 4503599627370496 * 4503599627370496) * (U : Int) ≤ (H * (4503599627370497 * 4503599627370497 * 4503599627370497 * 4503599627370497) + H * (4503599627370496 * 4503599627370496 * 4503599627370496) + 4503599627370496 * 4503599627370496 * 4503599627370496 * 4503599627370496) * (U : Int) := by grind
    have q3 := Int.le_of_mul_le_mul_right q2 hU
    omega
  | small h0 h1 _ =>
    have q := F.len_tight fa' fb' p3.1 p2.1 (by omega) (by omega) p3.2 p2.2 (by rw [Int.mul_comm]; exact Vk_sLoHi) hH hab' hm
    have z := lo_small
    have q2 : Vk (F.len sHi sLo a.natAbs b.natAbs) * (4503599627370496 * 4503599627370496 * 4503599627370496 * 4503599627370496) * (U : Int) ≤ (H * (4503599627370497 * 4503599627370497 * 4503599627370497 * 4503599627370497) + 2 * (4503599627370496 * 4503599627370496 * 4503599627370496 * 4503599627370496)) * (U : Int) := by grind
    have q3 := Int.le_of_mul_le_mul_right q2 hU
    omega
end Go.Proofs.Ytacnclofbnafiaa

namespace Go.Proofs.Ytacnclofbnafiaa
open Go.RowKit Fl

-- Go's own arithmetic: how far it is from what is exact
theorem Nr.nn {E D s : Int} (h : Nr E D s) (hE : 0 ≤ E) : 0 ≤ s := by
  have hI := INF_pos
  refine (h 0 (by omega) (by omega)).1 ?_
  rw [Vk_zero]; omega
theorem Nr.lo {E D s : Int} (h : Nr E D s) (hD : 0 < D) (hE : 0 ≤ E) (hs : s < INF) : E * 4503599627370496 ≤ Vk s * D * 4503599627370497 + 4503599627370496 * D := by
  have hI := INF_pos
  have s0 := h.nn hE
  have n : ¬ Vk (s + 1) * D ≤ E := fun c => by
    have := (h (s + 1) (by omega) (by omega)).1 c
    omega
  have st := Vk_step (j := s + 1) (by omega)
  rw [show s + 1 - 1 = s by omega] at st
  have m := mul_mono_r st (Int.le_of_lt hD)
  have e1 : Vk (s + 1) * 4503599627370496 * D = Vk (s + 1) * D * 4503599627370496 := by grind
  have e2 : (Vk s * 4503599627370497 + 4503599627370496) * D = Vk s * D * 4503599627370497 + 4503599627370496 * D := by grind
  rw [e1, e2] at m
  omega
theorem Nr.hi {E D s : Int} (h : Nr E D s) (hD : 0 < D) (hE : 0 ≤ E) (hs : s ≤ INF) : Vk s * D * 4503599627370496 ≤ E * 4503599627370497 + 4503599627370496 * D := by
  have hI := INF_pos
  have s0 := h.nn hE
  rcases Int.lt_or_eq_of_le s0 with g | g
  · have n : ¬ E ≤ Vk (s - 1) * D := fun c => by
      have := (h (s - 1) (by omega) (by omega)).2 c
      omega
    have st := Vk_step (j := s) (by omega)
    have m := mul_mono_r st (Int.le_of_lt hD)
    have e1 : Vk s * 4503599627370496 * D = Vk s * D * 4503599627370496 := by grind
    have e2 : (Vk (s - 1) * 4503599627370497 + 4503599627370496) * D = Vk (s - 1) * D * 4503599627370497 + 4503599627370496 * D := by grind
    rw [e1, e2] at m
    omega
  · rw [← g, Vk_zero]; omega
theorem SgnOk.xor {s t : Bool} {r q : Nat} : SgnOk (s ^^ t) (V s r * V t q) := by
  have a : (0 : Int) ≤ M r := by omega
  have b : (0 : Int) ≤ M q := by omega
  have m := Int.mul_nonneg a b
  unfold SgnOk V
  cases s <;> cases t <;> simp [Int.neg_mul, Int.mul_neg] <;> omega
theorem own_mul {x y : Nat} {k l : Int} (hx : Key x k) (hy : Key y l) (fk : Fin k) (fl : Fin l) : ∃ s σ, Ieee.double.mul x y = some s ∧ Key s σ ∧ Nr (Vk k * Vk l) (U : Int) σ := by
  obtain ⟨s, r, rfl, hr, _, e1⟩ := hx.fin fk.1 fk.2
  obtain ⟨t, q, rfl, hq, _, e2⟩ := hy.fin fl.1 fl.2
  obtain ⟨z, a, f⟩ := mul_fin s t r q hr hq
  have n : (V s r * V t q).natAbs = M r * M q := by
    rw [Int.natAbs_mul]
    unfold V
    cases s <;> cases t <;> simp
  rw [← n] at f
  have p := faith_place U_pos f SgnOk.xor
  rw [e1, e2] at p
  exact ⟨_, _, a, key_word f.1, p⟩
theorem own_div {x y : Nat} {k l : Int} (hx : Key x k) (hy : Key y l) (fk : Fin k) (fl : Fin l) (l0 : 0 < l) : ∃ s σ, Ieee.double.div x y = some s ∧ Key s σ ∧ Nr (Vk k * (U : Int)) (Vk l) σ := by
  obtain ⟨s, r, rfl, hr, _, e1⟩ := hx.fin fk.1 fk.2
  obtain ⟨t, q, rfl, hq, e3, e2⟩ := hy.fin fl.1 fl.2
  have t0 : t = false := by
    cases t
    · rfl
    · rw [ix_true] at e3; omega
  subst t0
  rw [ix_false] at e3
  have q0 : 0 < q := by omega
  have vq : Vk l = (M q : Int) := by rw [← e2]; rfl
  obtain ⟨z, a, f⟩ := div_fin s false r q hr hq q0
  have n : (V s r * (U : Int)).natAbs = M r * U := by
    rw [Int.natAbs_mul]
    unfold V
    cases s <;> simp
  rw [← n] at f
  have sg : SgnOk (s ^^ false) (V s r * (U : Int)) := by
    have hU := U_posI
    have mr := Int.mul_nonneg (show (0 : Int) ≤ M r by omega) (Int.le_of_lt hU)
    unfold SgnOk V
    cases s <;> simp [Int.neg_mul] <;> omega
  have p := faith_place (M_pos q0) f sg
  rw [e1, ← vq] at p
  exact ⟨_, _, a, key_word f.1, p⟩
/-- Go's own root, by places. -/
def NrS (E σ : Int) : Prop := ∀ j : Int, 0 ≤ j → j ≤ INF → (Vk j * Vk j ≤ E → j ≤ σ) ∧ (E ≤ Vk j * Vk j → σ ≤ j)
theorem own_sqrt {r : Nat} {k : Int} (hx : Key r k) (hk : 0 < k) (hk' : k < INF) : ∃ s σ, Ieee.double.sqrt r = some s ∧ Key s σ ∧ 0 ≤ σ ∧ NrS (Vk k * (U : Int)) σ := by
  obtain ⟨s, q, rfl, hq, e3, e2⟩ := hx.fin (by omega) hk'
  have t0 : s = false := by
    cases s
    · rfl
    · rw [ix_true] at e3; omega
  subst t0
  rw [ix_false] at e3
  obtain ⟨z, a, f⟩ := sqrt_fin q hq (by omega)
  have vq : Vk k = (M q : Int) := by rw [← e2]; rfl
  refine ⟨_, _, a, key_word f.1, by rw [ix_false]; omega, fun j j0 j1 => ?_⟩
  obtain ⟨f1, f2⟩ := f.2 j.natAbs (by omega)
  rw [Sq_nonneg] at f1
  rw [Sq_nonpos] at f2
  rw [ix_false, Vk_of_nn j0, vq]
  have c1 : ((M j.natAbs * M j.natAbs : Nat) : Int) = (M j.natAbs : Int) * (M j.natAbs : Int) := Int.natCast_mul _ _
  have c2 : ((M q * U : Nat) : Int) = (M q : Int) * (U : Int) := Int.natCast_mul _ _
  rw [← c1, ← c2]
  exact ⟨fun h => by have := f1 (by omega); omega, fun h => by have := f2 (by omega); omega⟩
theorem NrS.lo {E s : Int} (h : NrS E s) (s0 : 0 ≤ s) (hs : s < INF) : ∃ y, E ≤ y * y ∧ 0 ≤ y ∧ y * 4503599627370496 ≤ Vk s * 4503599627370497 + 4503599627370496 := by
  have n : ¬ Vk (s + 1) * Vk (s + 1) ≤ E := fun c => by
    have := (h (s + 1) (by omega) (by omega)).1 c
    omega
  have st := Vk_step (j := s + 1) (by omega)
  rw [show s + 1 - 1 = s by omega] at st
  exact ⟨Vk (s + 1), by omega, Vk_nn (by omega), st⟩
end Go.Proofs.Ytacnclofbnafiaa

namespace Go.Proofs.Ytacnclofbnafiaa
open Go.RowKit Fl

/-- The reckoning behind math.Hypot, from below (c: a part in c is lost in each step; D = c + 1). -/
theorem hyp_core {b s x1 x2 x3 y x4 x5 U c D : Int} (hc : 100 ≤ c) (hD : D = c + 1) (hU : 8 * (c * c) ≤ U) (b0 : 0 ≤ b) (s0 : 0 ≤ s) (n2 : 0 ≤ x2) (n4 : 0 ≤ x4) (ny : 0 ≤ y)
    (h1 : s * U * c ≤ x1 * b * D + c * b) (h2 : x1 * x1 * c ≤ x2 * U * D + c * U) (h3 : (x2 + U) * c ≤ x3 * D + c) (h4 : x3 * U ≤ y * y) (h4' : y * c ≤ x4 * D + c) (h5 : x4 * b * c ≤ x5 * U * D + c * U) (n5 : 0 ≤ x5) :
    (b * b + s * s) * (c * c * c * c * c * (c * c * c * c * c)) ≤ (x5 + 1) * (D + 1) * (D * D * D * D) * ((x5 + 1) * (D + 1) * (D * D * D * D)) := by
  have c0 : 0 ≤ c := by omega
  have D0 : 0 ≤ D := by omega
  have cc := nn_mul c0 c0
  have cU : c ≤ c * c := by
    have := Int.mul_le_mul_of_nonneg_left (show 1 ≤ c by omega) c0
    omega
  have U0 : 0 < U := by omega
  have U0' : 0 ≤ U := by omega
  -- (1)
  have k1 : s * U * c ≤ b * (x1 + 1) * D := by
    have e : b * (x1 + 1) * D = x1 * b * D + b * D := by grind
    have : b * c ≤ b * D := Int.mul_le_mul_of_nonneg_left (by omega) b0
    have e2 : c * b = b * c := Int.mul_comm _ _
    omega
  have k1' := sq_mono (nn_mul (nn_mul s0 U0') c0) k1
  -- (2)
  have k2 : (x1 + 1) * (x1 + 1) * (c * c) ≤ (x2 + 2) * U * (D * D) := by
    have sq := mul_self_nn (x1 - c)
    have e1 : (x1 - c) * (x1 - c) = x1 * x1 + c * c - 2 * (c * x1) := by grind
    have a1 : (x1 + 1) * (x1 + 1) * c ≤ x1 * x1 * D + c * D := by
      have e2 : (x1 + 1) * (x1 + 1) * c = x1 * x1 * c + 2 * (c * x1) + c := by grind
      have e3 : x1 * x1 * D + c * D = x1 * x1 * c + x1 * x1 + c * c + c := by rw [hD]; grind
      omega
    have a2 := mul_mono_r a1 c0
    have e4 : (x1 + 1) * (x1 + 1) * c * c = (x1 + 1) * (x1 + 1) * (c * c) := by grind
    have e5 : (x1 * x1 * D + c * D) * c = x1 * x1 * c * D + c * c * D := by grind
    have a3 := mul_mono_r h2 D0
    have e6 : (x2 * U * D + c * U) * D = x2 * U * (D * D) + U * (c * D) := by grind
    have a4 : U * (c * D) ≤ U * (D * D) := Int.mul_le_mul_of_nonneg_left (mul_mono_r (by omega) D0) U0'
    have a5 : c * c * D ≤ U * (D * D) := by
      have b1 : c * c * D ≤ U * D := mul_mono_r (by omega) D0
      have b2 : U * D ≤ U * (D * D) := Int.mul_le_mul_of_nonneg_left (by have := mul_mono_r (show 1 ≤ D by omega) D0; omega) U0'
      omega
    have e7 : (x2 + 2) * U * (D * D) = x2 * U * (D * D) + 2 * (U * (D * D)) := by grind
    omega
  -- (3)
  have k3 : (b * b + s * s) * (U * U * (c * c * c * c)) ≤ b * b * (U * (D * D * D * D) * (U + x2 + 2)) := by
    have e1 : (b * b + s * s) * (U * U * (c * c * c * c)) = b * b * (U * U * (c * c * c * c)) + s * U * c * (s * U * c) * (c * c) := by grind
    have m1 := mul_mono_r k1' cc
    have e2 : b * (x1 + 1) * D * (b * (x1 + 1) * D) * (c * c) = (x1 + 1) * (x1 + 1) * (c * c) * (b * b * (D * D)) := by grind
    have m2 := mul_mono_r k2 (nn_mul (mul_self_nn b) (mul_self_nn D))
    have e3 : (x2 + 2) * U * (D * D) * (b * b * (D * D)) = b * b * (U * (D * D * D * D) * (x2 + 2)) := by grind
    have m3 : U * U * (c * c * c * c) ≤ U * U * (D * D * D * D) := by
      refine Int.mul_le_mul_of_nonneg_left ?_ (mul_self_nn U)
      have q1 := sq_mono c0 (show c ≤ D by omega)
      have q2 := sq_mono cc q1
      have e : c * c * c * c = c * c * (c * c) := by grind
      have e' : D * D * D * D = D * D * (D * D) := by grind
      omega
    have m4 := Int.mul_le_mul_of_nonneg_left m3 (mul_self_nn b)
    have e5 : b * b * (U * (D * D * D * D) * (U + x2 + 2)) = b * b * (U * U * (D * D * D * D)) + b * b * (U * (D * D * D * D) * (x2 + 2)) := by grind
    rw [e1, e5]
    rw [e2] at m1
    rw [e3] at m2
    omega
  -- (4)
  have k4 : (U + x2 + 2) * c ≤ (x3 + 3) * D := by
    have e : (U + x2 + 2) * c = (x2 + U) * c + 2 * c := by grind
    have e2 : (x3 + 3) * D = x3 * D + 3 * D := by grind
    omega
  have x3U : U ≤ 2 * x3 := by
    have e : (x2 + U) * c = x2 * c + U * c := by grind
    have := nn_mul n2 c0
    have e2 : x3 * D = x3 * c + x3 := by rw [hD]; grind
    rcases Int.lt_or_le (2 * x3) U with g | g
    · exfalso
      have g2 := Int.mul_le_mul_of_nonneg_right (show 2 * x3 + 1 ≤ U by omega) c0
      have e3 : (2 * x3 + 1) * c = 2 * (x3 * c) + c := by grind
      have : U * 100 ≤ U * c := Int.mul_le_mul_of_nonneg_left hc U0'
      omega
    · exact g
  have k5 : (x3 + 3) * U * c ≤ y * y * D := by
    have e : (x3 + 3) * U * c = x3 * U * c + 3 * (U * c) := by grind
    have e2 : y * y * D = y * y * c + y * y := by rw [hD]; grind
    have m := mul_mono_r h4 c0
    have m2 := mul_mono_r x3U U0'
    have e3 : 2 * x3 * U = 2 * (x3 * U) := by grind
    have m3 : U * (8 * (c * c)) ≤ U * U := Int.mul_le_mul_of_nonneg_left hU U0'
    have m4 : U * c ≤ U * (c * c) := Int.mul_le_mul_of_nonneg_left cU U0'
    have e4 : U * (8 * (c * c)) = 8 * (U * (c * c)) := by grind
    have := nn_mul U0' c0
    omega
  have y2 : U ≤ 2 * y := by
    refine le_of_sq (by omega) ?_
    have e : 2 * y * (2 * y) = 4 * (y * y) := by grind
    have m2 := mul_mono_r x3U U0'
    have e3 : 2 * x3 * U = 2 * (x3 * U) := by grind
    have := mul_self_nn U
    omega
  have x4U : U ≤ 4 * x4 := by
    have e2 : x4 * D = x4 * c + x4 := by rw [hD]; grind
    rcases Int.lt_or_le (4 * x4) U with g | g
    · exfalso
      have g1 := mul_mono_r y2 c0
      have e3 : 2 * y * c = 2 * (y * c) := by grind
      have g2 := mul_mono_r (show 4 * x4 + 1 ≤ U by omega) c0
      have e4 : (4 * x4 + 1) * c = 4 * (x4 * c) + c := by grind
      have : U * 100 ≤ U * c := Int.mul_le_mul_of_nonneg_left hc U0'
      omega
    · exact g
  have k6 : y * c ≤ (x4 + 1) * D := by
    have e : (x4 + 1) * D = x4 * D + D := by grind
    omega
  have k6' := sq_mono (nn_mul ny c0) k6
  have k7 : b * (x4 + 1) * c ≤ (x5 + 1) * U * (D + 1) := by
    have a1 : x4 * b * c ≤ (x5 + 1) * U * D := by
      have e : (x5 + 1) * U * D = x5 * U * D + U * D := by grind
      have : U * c ≤ U * D := Int.mul_le_mul_of_nonneg_left (by omega) U0'
      have e2 : c * U = U * c := Int.mul_comm _ _
      omega
    have a2 : b * c ≤ (x5 + 1) * U := by
      have m := mul_mono_r x4U (nn_mul b0 c0)
      have e1 : 4 * x4 * (b * c) = 4 * (x4 * b * c) := by grind
      have e2 : 4 * ((x5 + 1) * U * D) = (x5 + 1) * (4 * D) * U := by grind
      have e3 : U * (b * c) = b * c * U := by grind
      have q : b * c * U ≤ (x5 + 1) * (4 * D) * U := by omega
      have q2 := Int.le_of_mul_le_mul_right q U0
      have q3 : (x5 + 1) * (4 * D) ≤ (x5 + 1) * U := Int.mul_le_mul_of_nonneg_left (by omega) (by omega)
      omega
    have e : b * (x4 + 1) * c = x4 * b * c + b * c := by grind
    have e2 : (x5 + 1) * U * (D + 1) = (x5 + 1) * U * D + (x5 + 1) * U := by grind
    omega
  have k7' := sq_mono (nn_mul (nn_mul b0 (by omega)) c0) k7
  -- all together
  have D4 : 0 ≤ D * D * D * D := nn_mul (nn_mul (nn_mul D0 D0) D0) D0
  have p1 : (b * b + s * s) * (U * U * (c * c * c * c * c)) ≤ b * b * (U * (D * D * D * D * D) * (x3 + 3)) := by
    have m := mul_mono_r k3 c0
    have e1 : (b * b + s * s) * (U * U * (c * c * c * c)) * c = (b * b + s * s) * (U * U * (c * c * c * c * c)) := by grind
    have e2 : b * b * (U * (D * D * D * D) * (U + x2 + 2)) * c = (U + x2 + 2) * c * (b * b * (U * (D * D * D * D))) := by grind
    have m2 := mul_mono_r k4 (nn_mul (mul_self_nn b) (nn_mul U0' D4))
    have e3 : (x3 + 3) * D * (b * b * (U * (D * D * D * D))) = b * b * (U * (D * D * D * D * D) * (x3 + 3)) := by grind
    rw [e1, e2] at m
    rw [e3] at m2
    omega
  have p2 : (b * b + s * s) * (U * U * (c * c * c * c * c * c)) ≤ b * b * (y * y * (D * D * D * D * D * D)) := by
    have m := mul_mono_r p1 c0
    have e1 : (b * b + s * s) * (U * U * (c * c * c * c * c)) * c = (b * b + s * s) * (U * U * (c * c * c * c * c * c)) := by grind
    have e2 : b * b * (U * (D * D * D * D * D) * (x3 + 3)) * c = (x3 + 3) * U * c * (b * b * (D * D * D * D * D)) := by grind
    have m2 := mul_mono_r k5 (nn_mul (mul_self_nn b) (nn_mul D4 D0))
    have e3 : y * y * D * (b * b * (D * D * D * D * D)) = b * b * (y * y * (D * D * D * D * D * D)) := by grind
    rw [e1, e2] at m
    rw [e3] at m2
    omega
  have p3 : (b * b + s * s) * (U * U * (c * c * c * c * c * c * (c * c))) ≤ b * (x4 + 1) * (b * (x4 + 1)) * (D * D * D * D * (D * D * D * D)) := by
    have m := mul_mono_r p2 cc
    have e1 : (b * b + s * s) * (U * U * (c * c * c * c * c * c)) * (c * c) = (b * b + s * s) * (U * U * (c * c * c * c * c * c * (c * c))) := by grind
    have e2 : b * b * (y * y * (D * D * D * D * D * D)) * (c * c) = y * c * (y * c) * (b * b * (D * D * D * D * (D * D))) := by grind
    have m2 := mul_mono_r k6' (nn_mul (mul_self_nn b) (nn_mul D4 (mul_self_nn D)))
    have e3 : (x4 + 1) * D * ((x4 + 1) * D) * (b * b * (D * D * D * D * (D * D))) = b * (x4 + 1) * (b * (x4 + 1)) * (D * D * D * D * (D * D * D * D)) := by grind
    rw [e1, e2] at m
    rw [e3] at m2
    omega
  have p4 : (b * b + s * s) * (c * c * c * c * c * (c * c * c * c * c)) * (U * U) ≤ (x5 + 1) * (D + 1) * (D * D * D * D) * ((x5 + 1) * (D + 1) * (D * D * D * D)) * (U * U) := by
    have m := mul_mono_r p3 cc
    have e1 : (b * b + s * s) * (U * U * (c * c * c * c * c * c * (c * c))) * (c * c) = (b * b + s * s) * (c * c * c * c * c * (c * c * c * c * c)) * (U * U) := by grind
    have e2 : b * (x4 + 1) * (b * (x4 + 1)) * (D * D * D * D * (D * D * D * D)) * (c * c) = b * (x4 + 1) * c * (b * (x4 + 1) * c) * (D * D * D * D * (D * D * D * D)) := by grind
    have m2 := mul_mono_r k7' (mul_self_nn (D * D * D * D))
    have e3 : (x5 + 1) * U * (D + 1) * ((x5 + 1) * U * (D + 1)) * (D * D * D * D * (D * D * D * D)) = (x5 + 1) * (D + 1) * (D * D * D * D) * ((x5 + 1) * (D + 1) * (D * D * D * D)) * (U * U) := by grind
    rw [e1, e2] at m
    rw [e3] at m2
    omega
  exact Int.le_of_mul_le_mul_right p4 (Int.mul_pos U0 U0)
end Go.Proofs.Ytacnclofbnafiaa

namespace Go.Proofs.Ytacnclofbnafiaa
open Go.RowKit Fl

theorem fa_some {op : BinOp} {x y r : Nat} (h : floatBits op .f64 x y = some r) : Extern.MathAsm.arith op x y = pure r := by
  unfold floatBits at h
  unfold Extern.MathAsm.arith Op.floatArith
  split at h
  · simp [h]
  · simp [h]
  · simp [h]
  · simp [h]
  · simp at h
theorem hyp_eq (p q r u big small d e g k h : Nat) (hp : p % 2 ^ 63 = r) (hq : q % 2 ^ 63 = u) (hr : r < 9218868437227405312) (hu : u < 9218868437227405312) (h0 : ¬ (r = 0 ∧ u = 0))
    (hb : (if Extern.MathAsm.lt r u then (u, r) else (r, u)) = (big, small)) (h1 : Ieee.double.div small big = some d) (h2 : Ieee.double.mul d d = some e) (h3 : Ieee.double.add e 4607182418800017408 = some g) (h4 : Ieee.double.sqrt g = some k) (h5 : Ieee.double.mul k big = some h) :
    Extern.MathHypot.archHypot #[.float .f64 p, .float .f64 q] = pure (.float .f64 h) := by
  have e1 : Extern.MathAsm.div small big = pure d := fa_some (op := .quo) h1
  have e2 : Extern.MathAsm.mul d d = pure e := fa_some (op := .mul) h2
  have e3 : Extern.MathAsm.add e Extern.MathAsm.one = pure g := fa_some (op := .add) h3
  have e4 : Extern.MathSqrt.sqrt #[.float .f64 g] = pure (.float .f64 k) := by
    have h' : FloatKind.f64.format.sqrt g = some k := h4
    have e : Extern.MathSqrt.sqrt #[.float .f64 g] = (match FloatKind.f64.format.sqrt g with
      | some r => pure (.float .f64 r)
      | none => choose (.nanBits .f64 g g) >>= fun c => pure (.float .f64 c)) := rfl
    rw [e, h']
  have e5 : Extern.MathAsm.mul k big = pure h := fa_some (op := .mul) h5
  have n1 : (r == Extern.MathAsm.posInf || u == Extern.MathAsm.posInf) = false := by
    have : Extern.MathAsm.posInf = 9218868437227405312 := rfl
    rw [this]; simp; omega
  have n2 : ¬ (r > Extern.MathAsm.posInf ∨ u > Extern.MathAsm.posInf) := by
    have : Extern.MathAsm.posInf = 9218868437227405312 := rfl
    rw [this]; omega
  have n3 : (r == 0 && u == 0) = false := by simp; omega
  show (do
    let p := p % 2 ^ 63
    let q := q % 2 ^ 63
    if p == Extern.MathAsm.posInf || q == Extern.MathAsm.posInf then return .float .f64 Extern.MathAsm.posInf
    if p > Extern.MathAsm.posInf || q > Extern.MathAsm.posInf then return .float .f64 Extern.MathAsm.nan
    if p == 0 && q == 0 then return .float .f64 0
    let (big, small) := if Extern.MathAsm.lt p q then (q, p) else (p, q)
    let r ← Extern.MathAsm.div small big
    let r ← Extern.MathAsm.add (← Extern.MathAsm.mul r r) Extern.MathAsm.one
    let .float _ r ← Extern.MathSqrt.sqrt #[.float .f64 r] | stuck "sqrt: a float expected"
    pure (.float .f64 (← Extern.MathAsm.mul r big)) : Sem Value) = _
  simp only [hp, hq, hb, n1, n3]
  simp [n2, e1, e2, e3, e4, e5]
end Go.Proofs.Ytacnclofbnafiaa

namespace Go.Proofs.Ytacnclofbnafiaa
open Go.RowKit Fl

theorem hyp_eq0 (p q : Nat) (hp : p % 2 ^ 63 = 0) (hq : q % 2 ^ 63 = 0) : Extern.MathHypot.archHypot #[.float .f64 p, .float .f64 q] = pure (.float .f64 0) := by
  show (do
    let p := p % 2 ^ 63
    let q := q % 2 ^ 63
    if p == Extern.MathAsm.posInf || q == Extern.MathAsm.posInf then return .float .f64 Extern.MathAsm.posInf
    if p > Extern.MathAsm.posInf || q > Extern.MathAsm.posInf then return .float .f64 Extern.MathAsm.nan
    if p == 0 && q == 0 then return .float .f64 0
    let (big, small) := if Extern.MathAsm.lt p q then (q, p) else (p, q)
    let r ← Extern.MathAsm.div small big
    let r ← Extern.MathAsm.add (← Extern.MathAsm.mul r r) Extern.MathAsm.one
    let .float _ r ← Extern.MathSqrt.sqrt #[.float .f64 r] | stuck "sqrt: a float expected"
    pure (.float .f64 (← Extern.MathAsm.mul r big)) : Sem Value) = _
  have n1 : ((0 : Nat) == Extern.MathAsm.posInf || (0 : Nat) == Extern.MathAsm.posInf) = false := by decide
  simp only [hp, hq, n1]
  simp
theorem hyp_run {x y h : Nat} (e : Extern.MathHypot.archHypot #[.float .f64 x, .float .f64 y] = pure (.float .f64 h)) (w : World) : (callFunc 152 #[.float .f64 x, .float .f64 y]).run Try.prog w = .ok (.value (.float .f64 h)) w := by
  rw [run_callFunc_extern Try.func152 (by kernel_rfl) (by kernel_rfl) (by kernel_rfl) (e := Extern.MathHypot.archHypot) (by kernel_rfl), e]
  rfl
theorem Hypot_w {x y h : Nat} (e : Extern.MathHypot.archHypot #[.float .f64 x, .float .f64 y] = pure (.float .f64 h)) (w : World) : Calls Try.prog 122 #[.float .f64 x, .float .f64 y] w fun e w' => e = .returned (.float .f64 h) ∧ w' = w := by
  have hs := hyp_run e
  clear e
  go_enter Try.func122, Try.ntmps122
  go_wp2
  go_ret
  exact ⟨rfl, rfl⟩
theorem Vk_two : Vk 4611686018427387904 = 2 * (U : Int) := by
  rw [Vk_of_nn (by omega)]
  have e : (4611686018427387904 : Int).natAbs = 4611686018427387904 := rfl
  rw [e, M_two]
  omega
/-- What math.Hypot answers, by places: of b, the greater, and s. -/
structure HypOk (b s h : Int) : Prop where
  b0 : 0 < b
  s0 : 0 ≤ s
  le : s ≤ b
  ex : ∃ x1 x2 x3 x4 : Int, Nr (Vk s * (U : Int)) (Vk b) x1 ∧ Nr (Vk x1 * Vk x1) (U : Int) x2 ∧ Nr (Vk x2 + (U : Int)) 1 x3 ∧ 0 ≤ x4 ∧ NrS (Vk x3 * (U : Int)) x4 ∧ Nr (Vk x4 * Vk b) (U : Int) h
    ∧ 0 ≤ x1 ∧ x1 ≤ sOne ∧ 0 ≤ x2 ∧ x2 ≤ sOne ∧ sOne ≤ x3 ∧ x3 ≤ 4611686018427387904 ∧ x4 ≤ 4611686018427387904
theorem hyp_ok {b s : Nat} (hb : b < INF) (hs : s ≤ b) (b0 : 0 < b) : ∃ d e g k h η, Ieee.double.div s b = some d ∧ Ieee.double.mul d d = some e ∧ Ieee.double.add e 4607182418800017408 = some g ∧ Ieee.double.sqrt g = some k ∧ Ieee.double.mul k b = some h ∧ Key h η ∧ HypOk b s η := by
  have hI := INF_pos
  have hU := U_posI
  have kb := Key.word hb
  have ks := Key.word (show s < INF by omega)
  have fb : Fin (b : Int) := Fin.of (by omega) (by omega)
  have fs : Fin (s : Int) := Fin.of (by omega) (by omega)
  have vs := Vk_nn (show (0 : Int) ≤ s by omega)
  have vb := Vk_pos (show (0 : Int) < b by omega)
  have vsb := Vk_le.2 (show (s : Int) ≤ b by omega)
  have v1 := Vk_sOne
  have o1 : Fin sOne := by unfold Fin sOne; rw [INF_eq]; omega
  have tw : (4611686018427387904 : Int) < INF := by rw [INF_eq]; omega
  have b1 := o1.1
  have b2 := o1.2
  have p1 : (0 : Int) < sOne := by unfold sOne; omega
  obtain ⟨d, x1, e1, k1, n1⟩ := own_div ks kb fs fb (by omega)
  have x10 := n1.nn (nn_mul vs (Int.le_of_lt hU))
  have x11 : x1 ≤ sOne := (n1 sOne (by omega) (by omega)).2 (by rw [v1, Int.mul_comm (U : Int)]; exact mul_mono_r vsb (Int.le_of_lt hU))
  have f1 : Fin x1 := Fin.of x10 (by omega)
  have w1 := Vk_nn x10
  have w1' := Vk_le.2 x11
  rw [v1] at w1'
  obtain ⟨e, x2, e2, k2, n2⟩ := own_mul k1 k1 f1 f1
  have x20 := n2.nn (nn_mul w1 w1)
  have x21 : x2 ≤ sOne := (n2 sOne (by omega) (by omega)).2 (by rw [v1]; exact sq_mono w1 w1')
  have f2 : Fin x2 := Fin.of x20 (by omega)
  have w2 := Vk_nn x20
  have w2' := Vk_le.2 x21
  rw [v1] at w2'
  have kone : Key 4607182418800017408 sOne := Key.word one_lt
  obtain ⟨g, x3, e3, k3, n3⟩ := own_add k2 kone f2.1 f2.2 o1.1 o1.2
  rw [v1] at n3
  have x30 : sOne ≤ x3 := (n3 sOne (by omega) (by omega)).1 (by rw [v1]; omega)
  have x31 : x3 ≤ 4611686018427387904 := (n3 4611686018427387904 (by omega) (by omega)).2 (by rw [Vk_two]; omega)
  have w3' := Vk_le.2 x31
  rw [Vk_two] at w3'
  obtain ⟨k, x4, e4, k4, x40, n4⟩ := own_sqrt k3 (by omega) (by omega)
  have x41 : x4 ≤ 4611686018427387904 := (n4 4611686018427387904 (by omega) (by omega)).2 (by
    rw [Vk_two]
    have := mul_mono_r w3' (Int.le_of_lt hU)
    have q : 2 * (U : Int) * (2 * (U : Int)) = 2 * (2 * (U : Int) * U) := by grind
    have := mul_self_nn (U : Int)
    have q2 : 2 * (U : Int) * U = 2 * (U * U) := by grind
    omega)
  obtain ⟨h, x5, e5, k5, n5⟩ := own_mul k4 kb (Fin.of x40 (by omega)) fb
  exact ⟨d, e, g, k, h, x5, e1, e2, e3, e4, e5, k5, ⟨by omega, by omega, by omega, x1, x2, x3, x4, n1, n2, n3, x40, n4, n5, x10, x11, x20, x21, x30, x31, x41⟩⟩
/-- math.Hypot of finite words. -/
theorem hypot_key {x y : Nat} {k l : Int} (hx : Key x k) (hy : Key y l) (fk : Fin k) (fl : Fin l) :
    ∃ h η, Key h η ∧ ((k = 0 ∧ l = 0 ∧ η = 0) ∨ HypOk (max k.natAbs l.natAbs : Int) (min k.natAbs l.natAbs : Int) η) ∧ ∀ w, Calls Try.prog 122 #[.float .f64 x, .float .f64 y] w fun e w' => e = .returned (.float .f64 h) ∧ w' = w := by
  obtain ⟨s, r, rfl, hr, e1, _⟩ := hx.fin fk.1 fk.2
  obtain ⟨t, q, rfl, hq, e2, _⟩ := hy.fin fl.1 fl.2
  have sw : Ieee.double.signWeight = 2 ^ 63 := rfl
  have p1 : W s r % 2 ^ 63 = r := by rw [← sw]; exact rung_W s r (fin_lt (Nat.le_of_lt hr))
  have p2 : W t q % 2 ^ 63 = q := by rw [← sw]; exact rung_W t q (fin_lt (Nat.le_of_lt hq))
  have a1 : k.natAbs = r := by subst e1; cases s <;> simp [ixI]
  have a2 : l.natAbs = q := by subst e2; cases t <;> simp [ixI]
  have hI : INF = 9218868437227405312 := INF_eq
  by_cases z : r = 0 ∧ q = 0
  · refine ⟨0, 0, Key.zero, .inl ⟨by omega, by omega, rfl⟩, Hypot_w (hyp_eq0 _ _ (by rw [p1]; exact z.1) (by rw [p2]; exact z.2))⟩
  · have lt_ : Extern.MathAsm.lt r q = decide (r < q) := by
      have o : FloatKind.f64.format.order r q = some (compare (r : Int) (q : Int)) := (Key.word hr).order (Key.word hq)
      unfold Extern.MathAsm.lt
      rw [o]
      by_cases c : r < q
      · rw [Int.compare_eq_lt.2 (by omega)]; simp [c]
      · have : compare (r : Int) (q : Int) ≠ .lt := by rw [Ne, Int.compare_eq_lt]; omega
        simp [this, c]
    by_cases c : r < q
    · obtain ⟨d, e, g, m, h, η, h1, h2, h3, h4, h5, h6, h7⟩ := hyp_ok hq (Nat.le_of_lt c) (by omega)
      refine ⟨h, η, h6, .inr ?_, Hypot_w (hyp_eq _ _ r q q r d e g m h p1 p2 (by omega) (by omega) z (by rw [lt_]; simp [c]) h1 h2 h3 h4 h5)⟩
      rw [a1, a2, show max (r : Int) q = q by omega, show min (r : Int) q = r by omega]
      exact h7
    · obtain ⟨d, e, g, m, h, η, h1, h2, h3, h4, h5, h6, h7⟩ := hyp_ok hr (Nat.not_lt.1 c) (by omega)
      refine ⟨h, η, h6, .inr ?_, Hypot_w (hyp_eq _ _ r q r q d e g m h p1 p2 (by omega) (by omega) z (by rw [lt_]; simp [c]) h1 h2 h3 h4 h5)⟩
      rw [a1, a2, show max (r : Int) q = r by omega, show min (r : Int) q = q by omega]
      exact h7
end Go.Proofs.Ytacnclofbnafiaa

namespace Go.Proofs.Ytacnclofbnafiaa
open Go.RowKit Fl

theorem U_big : 8 * ((4503599627370496 : Int) * 4503599627370496) ≤ (U : Int) := by
  have k : 2 ^ 107 ≤ U := by
    unfold U
    exact Nat.pow_le_pow_right (by decide) (by have := EE_eq; omega)
  have e : (2 : Nat) ^ 107 = 162259276829213363391578010288128 := by decide
  rw [e] at k
  omega
theorem HypOk.lo {b s h H : Int} (k : HypOk b s h) (hh : h < INF) (hH : (Vk h + 1) * 4503599627370503 ≤ H * 4503599627370496) : Vk b * Vk b + Vk s * Vk s ≤ H * H := by
  have hI := INF_pos
  have hU := U_posI
  obtain ⟨x1, x2, x3, x4, n1, n2, n3, x40, n4, n5, x10, x11, x20, x21, x30, x31, x41⟩ := k.ex
  have b0 := k.b0
  have s0 := k.s0
  have vb := Vk_pos b0
  have vs := Vk_nn s0
  have w1 := Vk_nn x10
  have w2 := Vk_nn x20
  have w4 := Vk_nn x40
  have o1 : sOne < INF := by unfold sOne; rw [INF_eq]; omega
  have tw : (4611686018427387904 : Int) < INF := by rw [INF_eq]; omega
  have h0 := n5.nn (nn_mul w4 (Int.le_of_lt vb))
  have l1 := n1.lo vb (nn_mul vs (Int.le_of_lt hU)) (by omega)
  have l2 := n2.lo hU (nn_mul w1 w1) (by omega)
  have l3 := n3.lo (by omega) (by omega) (by omega)
  obtain ⟨y, y1, y0, y2⟩ := n4.lo x40 (by omega)
  have l5 := n5.lo hU (nn_mul w4 (Int.le_of_lt vb)) hh
  have c := hyp_core (c := 4503599627370496) (D := 4503599627370497) (by omega) (by omega) U_big (Int.le_of_lt vb) vs w2 w4 y0 l1 l2 (by omega) y1 y2 l5 (Vk_nn h0)
  have v5 := Vk_nn h0
  have H0 : 0 ≤ H := by omega
  have z0 : 0 ≤ Vk h + 1 := by omega
  generalize Vk b * Vk b + Vk s * Vk s = E at *
  generalize Vk h + 1 = z at *
  have g : z * (4503599627370497 + 1) * (4503599627370497 * 4503599627370497 * 4503599627370497 * 4503599627370497) ≤ H * (4503599627370496 * 4503599627370496 * 4503599627370496 * 4503599627370496 * 4503599627370496) := by omega
  have g2 := sq_mono (show 0 ≤ z * (4503599627370497 + 1) * (4503599627370497 * 4503599627370497 * 4503599627370497 * 4503599627370497) by omega) g
  have e : H * (4503599627370496 * 4503599627370496 * 4503599627370496 * 4503599627370496 * 4503599627370496) * (H * (4503599627370496 * 4503599627370496 * 4503599627370496 * 4503599627370496 * 4503599627370496)) = H * H * (4503599627370496 * 4503599627370496 * 4503599627370496 * 4503599627370496 * 4503599627370496 * (4503599627370496 * 4503599627370496 * 4503599627370496 * 4503599627370496 * 4503599627370496)) := by grind
  rw [e] at g2
  exact Int.le_of_mul_le_mul_right (Int.le_trans c g2) (by omega)
theorem HypOk.fin {b s h : Int} (k : HypOk b s h) (fb : b ≤ hMax) : 0 ≤ h ∧ h < INF := by
  have hU := U_posI
  obtain ⟨x1, x2, x3, x4, n1, n2, n3, x40, n4, n5, x10, x11, x20, x21, x30, x31, x41⟩ := k.ex
  have vb := Vk_pos k.b0
  have w4 := Vk_nn x40
  have hm := hMax_bd
  refine ⟨n5.nn (nn_mul w4 (Int.le_of_lt vb)), ?_⟩
  have := (n5 ((INF : Int) - 1) (by omega) (by omega)).2 (by
    rw [Vk_hMax]
    have a := Vk_le.2 x41
    rw [Vk_two] at a
    have b1 := Vk_le.2 fb
    have m := mul_mono_r a (Int.le_of_lt vb)
    have m2 := Int.mul_le_mul_of_nonneg_left b1 (show 0 ≤ 2 * (U : Int) by omega)
    have e : 2 * Vk hMax * (U : Int) = 2 * (U : Int) * Vk hMax := by grind
    omega)
  omega
theorem HypOk.hi {b s h : Int} (k : HypOk b s h) (hh : h ≤ INF) : Vk h * 4503599627370496 ≤ 2 * Vk b * 4503599627370497 + 4503599627370496 := by
  have hU := U_posI
  obtain ⟨x1, x2, x3, x4, n1, n2, n3, x40, n4, n5, x10, x11, x20, x21, x30, x31, x41⟩ := k.ex
  have vb := Vk_pos k.b0
  have w4 := Vk_nn x40
  have u := n5.hi hU (nn_mul w4 (Int.le_of_lt vb)) hh
  have a := Vk_le.2 x41
  rw [Vk_two] at a
  have m := mul_mono_r a (Int.le_of_lt vb)
  have q : Vk h * 4503599627370496 * (U : Int) ≤ (2 * Vk b * 4503599627370497 + 4503599627370496) * (U : Int) := by
    have e1 : Vk h * 4503599627370496 * (U : Int) = Vk h * (U : Int) * 4503599627370496 := by grind
    have e2 : (2 * Vk b * 4503599627370497 + 4503599627370496) * (U : Int) = 2 * (U : Int) * Vk b * 4503599627370497 + 4503599627370496 * (U : Int) := by grind
    rw [e1, e2]
    omega
  exact Int.le_of_mul_le_mul_right q hU
/-- math.Ldexp by a power of 2 downwards. -/
theorem ldexp_key {x : Nat} {k : Int} (hx : Key x k) (fk : Fin k) (n : Nat) (hn : n ≤ 5000) : ∃ y σ, Key y σ ∧ Nr (Vk k) ((2 ^ n : Nat) : Int) σ ∧ ∀ w, Calls Try.prog 79 #[.float .f64 x, .int .i64 (-(n : Int))] w fun e w' => e = .returned (.float .f64 y) ∧ w' = w := by
  obtain ⟨s, r, rfl, hr, e1, e2⟩ := hx.fin fk.1 fk.2
  rcases Nat.eq_zero_or_pos r with z | z
  · subst z
    refine ⟨W s 0, ixI s 0, key_word (Nat.zero_le _), ?_, Ldexp_zero s _⟩
    have i0 : ixI s 0 = 0 := by cases s <;> rfl
    have v0 : Vk k = 0 := by rw [← e1, i0, Vk_zero]
    rw [i0, v0]
    intro j j1 j2
    have p : (0 : Int) < ((2 ^ n : Nat) : Int) := by have := Nat.two_pow_pos n; omega
    constructor
    · intro h
      rcases Int.lt_or_le 0 j with g | g
      · have := Int.mul_pos (Vk_pos g) p; omega
      · exact g
    · intro h
      rcases Int.lt_or_le j 0 with g | g
      · have v := Vk_lt.2 g
        rw [Vk_zero] at v
        have := Int.mul_neg_of_neg_of_pos v p
        omega
      · exact g
  · obtain ⟨y, l, c⟩ := Ldexp_any s r (-(n : Int)) z hr (by omega) (by omega)
    refine ⟨_, _, key_word l.1, ?_, c⟩
    have f : Faith (Rt (V s r).natAbs (2 ^ n)) y := by
      have l' : Faith (Rt (M r * 2 ^ (-(n : Int)).toNat) (2 ^ (- -(n : Int)).toNat)) y := l
      rw [show (-(n : Int)).toNat = 0 by omega, Nat.pow_zero, Nat.mul_one, show (- -(n : Int)).toNat = n by omega] at l'
      have v : (V s r).natAbs = M r := by unfold V; cases s <;> simp
      rw [v]; exact l'
    have p := faith_place (Nat.two_pow_pos n) f (V_sgn' s r)
    rw [e2] at p
    exact p
end Go.Proofs.Ytacnclofbnafiaa
