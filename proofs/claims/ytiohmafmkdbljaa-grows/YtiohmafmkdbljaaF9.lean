import Derived.Test.YtiohmafmkdbljaaF8
namespace Go.Proofs.Ytiohmafmkdbljaa.Fl
open Ieee

theorem Rt_anti (N D : Nat) (hD : 0 < D) : Anti (Rt N D) := by
  intro a b hab h
  rw [Rt_nonneg] at h
  have := Nat.mul_lt_mul_of_pos_right hab hD
  unfold Rt; omega
theorem Sq_anti (N : Nat) : Anti (Sq N) := by
  intro a b hab h
  rw [Sq_nonneg] at h
  have := sq_lt.2 hab
  unfold Sq; omega

theorem le_cancel {a b c : Nat} (hc : 0 < c) : a ≤ b ↔ a * c ≤ b * c := ⟨fun h => Nat.mul_le_mul_right _ h, fun h => Nat.le_of_mul_le_mul_right h hc⟩

theorem link_ratio {N D N' D' : Nat} {n : Int} (hD : 0 < D) (hD' : 0 < D') (e : N * D' * 2 ^ (-n).toNat = N' * D * 2 ^ n.toNat) (v v' : Nat) (hv : v' * 2 ^ n.toNat = v * 2 ^ (-n).toNat) :
    (0 ≤ Rt N D v ↔ 0 ≤ Rt N' D' v') ∧ (Rt N D v ≤ 0 ↔ Rt N' D' v' ≤ 0) := by
  rw [Rt_nonneg, Rt_nonneg, Rt_nonpos, Rt_nonpos]
  have p1 := Nat.two_pow_pos (-n).toNat
  have p2 := Nat.two_pow_pos n.toNat
  generalize 2 ^ (-n).toNat = A at *
  generalize 2 ^ n.toNat = B at *
  have q1 : 0 < D' * A := Nat.mul_pos hD' p1
  have q2 : 0 < D * B := Nat.mul_pos hD p2
  have r1 : v * D * (D' * A) = v' * D' * (D * B) := by
    have : v * D * (D' * A) = v * A * (D * D') := by simp only [Nat.mul_left_comm, Nat.mul_comm]
    rw [this, ← hv]; simp only [Nat.mul_left_comm, Nat.mul_comm]
  have r2 : N * (D' * A) = N' * (D * B) := by
    rw [← Nat.mul_assoc, e, Nat.mul_assoc]
  constructor
  · rw [le_cancel q1, r1, r2, ← le_cancel q2]
  · rw [le_cancel q1, r1, r2, ← le_cancel q2]
theorem link_sq {N N' : Nat} {n : Int} (e : N * (2 ^ (-n).toNat * 2 ^ (-n).toNat) = N' * (2 ^ n.toNat * 2 ^ n.toNat)) (v v' : Nat) (hv : v' * 2 ^ n.toNat = v * 2 ^ (-n).toNat) :
    (0 ≤ Sq N v ↔ 0 ≤ Sq N' v') ∧ (Sq N v ≤ 0 ↔ Sq N' v' ≤ 0) := by
  rw [Sq_nonneg, Sq_nonneg, Sq_nonpos, Sq_nonpos]
  have p1 := Nat.two_pow_pos (-n).toNat
  have p2 := Nat.two_pow_pos n.toNat
  generalize 2 ^ (-n).toNat = A at *
  generalize 2 ^ n.toNat = B at *
  have q1 : 0 < A * A := Nat.mul_pos p1 p1
  have q2 : 0 < B * B := Nat.mul_pos p2 p2
  have r1 : v * v * (A * A) = v' * v' * (B * B) := by
    rw [Nat.mul_mul_mul_comm, ← hv, Nat.mul_mul_mul_comm]
  constructor
  · rw [le_cancel q1, r1, e, ← le_cancel q2]
  · rw [le_cancel q1, r1, e, ← le_cancel q2]

/-- The fraction of Frexp: its worth. -/
def frR (r : Nat) : Nat := 4598175219545276416 + mant r
theorem M_frR (r e : Nat) (he : e = 1021) : M (frR r) = mant r * 2 ^ e := by
  have h1 := mant_ge r
  have h2 := mant_lt r
  have h3 : frR r = e * 4503599627370496 + mant r := by unfold frR; omega
  rw [h3]
  exact M_pack e (mant r) (by omega) (by omega)
theorem frR_lt (r : Nat) : frR r < INF := by have := mant_lt r; rw [INF_eq]; unfold frR; omega
theorem frR_pos (r : Nat) : 0 < frR r := by unfold frR; omega
theorem M_fr (r : Nat) (h0 : 0 < r) : M r * 2 ^ (-(fe r)).toNat = M (frR r) * 2 ^ (fe r).toNat := by
  obtain ⟨e, he⟩ : ∃ e : Nat, e = 1021 := ⟨_, rfl⟩
  rw [M_frR r e he, Nat.mul_assoc, ← Nat.pow_add]
  exact (pow_eq _ _ _ _ _ _ (by omega)).1 (M_fe r h0)

/-- A rung at a power of 2. -/
theorem M_at (e : Nat) : M ((e + 1) * 4503599627370496) = 2 ^ (52 + e) := by
  rw [M_of_pow e _ rfl, Nat.pow_add, p52]
theorem mant_pow (r : Nat) : 2 ^ 52 ≤ mant r ∧ mant r < 2 ^ 53 := ⟨by rw [p52]; exact mant_ge r, by rw [p53]; exact mant_lt r⟩
theorem M_fr_pow (r e : Nat) (he : e = 1021) : 2 ^ (52 + e) ≤ M (frR r) ∧ M (frR r) < 2 ^ (53 + e) := by
  rw [M_frR r e he, Nat.pow_add, Nat.pow_add]
  exact ⟨Nat.mul_le_mul_right _ (mant_pow r).1, Nat.mul_lt_mul_of_pos_right (mant_pow r).2 (Nat.two_pow_pos _)⟩

/-- From loose bounds, what 'Scaled' asks. -/
theorem range_of {C' : Nat → Int} {l : Nat} (h : Faith C' l) (h1 : 0 ≤ C' (M (600 * 4503599627370496))) (h2 : C' (M (2000 * 4503599627370496)) ≤ 0) :
    9007199254740992 < M (l - 1) ∧ l + 1 < INF ∧ 600 * 4503599627370496 ≤ l ∧ l ≤ 2000 * 4503599627370496 := by
  have g1 := (h.2 _ (by rw [INF_eq]; omega)).1 h1
  have g2 := (h.2 _ (by rw [INF_eq]; omega)).2 h2
  refine ⟨?_, by rw [INF_eq]; omega, g1, g2⟩
  have g3 : M (3 * 4503599627370496) ≤ M (l - 1) := M_le (by omega)
  have g4 := M_at 2
  rw [show (2 + 1) * 4503599627370496 = 3 * 4503599627370496 by omega, show 2 ^ (52 + 2) = 18014398509481984 by decide] at g4
  omega
/-- Of a whole number of units: not lost. -/
theorem unit_pos {E : Int} {z : Nat} (h : Faith (Rt E.natAbs U) z) (hd : ∃ c : Int, E = c * U) : (E ≠ 0 → 0 < z) ∧ (E = 0 → z = 0) := by
  constructor
  · intro hE
    obtain ⟨c, hc⟩ := hd
    have hU := U_pos
    have : U ≤ E.natAbs := by
      rw [hc, Int.natAbs_mul, Int.natAbs_natCast]
      have : 1 ≤ c.natAbs := by
        have h0 : c ≠ 0 := by rintro rfl; simp at hc; exact hE hc
        omega
      calc U = 1 * U := (Nat.one_mul _).symm
        _ ≤ _ := Nat.mul_le_mul_right _ this
    have h1 := (h.2 1 (by rw [INF_eq]; omega)).1 ((Rt_nonneg _ _ _).2 (by rw [M_one]; omega))
    omega
  · rintro rfl
    have := h.exact (k := 0) (Nat.zero_le _) (by unfold Rt; rw [M_zero]; simp)
    exact this
/-- How a tail stands to 0. -/
theorem tail_order (sg : Bool) (z : Nat) (E : Int) (hz : z ≤ INF) (h1 : E ≠ 0 → 0 < z) (h2 : E = 0 → z = 0) (hs : SgnOk sg E) :
    double.order (W sg z) 0 = some (compare E 0) := by
  rcases Int.lt_trichotomy E 0 with h | h | h
  · have := hs.1 h
    subst this
    rw [order_zero_cmp true z (h1 (by omega)) hz, Int.compare_eq_lt.2 h]; rfl
  · have := h2 h
    subst this
    rw [order_zero_zero, h]; simp
  · have := hs.2 h
    subst this
    rw [order_zero_cmp false z (h1 (by omega)) hz, Int.compare_eq_gt.2 h]; rfl
end Go.Proofs.Ytiohmafmkdbljaa.Fl
