import Derived.Test.YtiohmafmkdbljaaF9
namespace Go.Proofs.Ytiohmafmkdbljaa.Fl
open Ieee

theorem p2_le {a b : Nat} (h : a ≤ b) : 2 ^ a ≤ 2 ^ b := Nat.pow_le_pow_right (by omega) h
theorem M_600 (a : Nat) (ha : a = 651) : M (600 * 4503599627370496) = 2 ^ a := by
  obtain ⟨e, he⟩ : ∃ e : Nat, e = 599 := ⟨_, rfl⟩
  have h := M_at e
  rw [show (e + 1) * 4503599627370496 = 600 * 4503599627370496 by omega, show 52 + e = a by omega] at h
  exact h
theorem M_2000 (a : Nat) (ha : a = 2051) : M (2000 * 4503599627370496) = 2 ^ a := by
  obtain ⟨e, he⟩ : ∃ e : Nat, e = 1999 := ⟨_, rfl⟩
  have h := M_at e
  rw [show (e + 1) * 4503599627370496 = 2000 * 4503599627370496 by omega, show 52 + e = a by omega] at h
  exact h
theorem M_big (l : Nat) (h : 600 * 4503599627370496 ≤ l) : ∃ c, M l = c * 2 ^ 599 := by
  refine ⟨mg l * 2 ^ (l / 4503599627370496 - 1 - 599), ?_⟩
  unfold M
  obtain ⟨e, he⟩ : ∃ e : Nat, e = 599 := ⟨_, rfl⟩
  rw [← he, Nat.mul_assoc, ← Nat.pow_add]; congr 2; omega
theorem U_dvd (a b c d : Nat) (hab : EE ≤ b + d) : ∃ k, a * 2 ^ b * (c * 2 ^ d) = k * U := by
  refine ⟨a * c * 2 ^ (b + d - EE), ?_⟩
  unfold U
  have h : b + d - EE + EE = b + d := by omega
  rw [Nat.mul_mul_mul_comm, ← Nat.pow_add, Nat.mul_assoc (a * c), ← Nat.pow_add, h]

theorem prod_scaled (r q l : Nat) (hr0 : 0 < r) (hq0 : 0 < q) (hl : Faith (Rt (M (frR r) * M (frR q)) U) l) :
    Scaled (Rt (M r * M q) U) (Rt (M (frR r) * M (frR q)) U) (fe r + fe q) l ∧ 600 * 4503599627370496 ≤ l ∧ l ≤ 2000 * 4503599627370496 := by
  obtain ⟨e, he⟩ : ∃ e : Nat, e = 1021 := ⟨_, rfl⟩
  obtain ⟨a, ha⟩ : ∃ a : Nat, a = 651 := ⟨_, rfl⟩
  obtain ⟨b, hb⟩ : ∃ b : Nat, b = 2051 := ⟨_, rfl⟩
  have hE := EE_eq
  obtain ⟨r1, r2⟩ := M_fr_pow r e he
  obtain ⟨q1, q2⟩ := M_fr_pow q e he
  obtain ⟨g1, g2, g3⟩ := range_of hl (by
    rw [Rt_nonneg, M_600 a ha]
    calc 2 ^ a * U = 2 ^ (a + EE) := by unfold U; rw [Nat.pow_add]
      _ ≤ 2 ^ (52 + e + (52 + e)) := p2_le (by omega)
      _ = 2 ^ (52 + e) * 2 ^ (52 + e) := Nat.pow_add ..
      _ ≤ _ := Nat.mul_le_mul r1 q1) (by
    rw [Rt_nonpos, M_2000 b hb]
    calc M (frR r) * M (frR q) ≤ 2 ^ (53 + e) * 2 ^ (53 + e) := Nat.mul_le_mul (Nat.le_of_lt r2) (Nat.le_of_lt q2)
      _ = 2 ^ (53 + e + (53 + e)) := (Nat.pow_add ..).symm
      _ ≤ 2 ^ (b + EE) := p2_le (by omega)
      _ = 2 ^ b * U := by unfold U; rw [Nat.pow_add])
  refine ⟨⟨Rt_anti _ _ U_pos, Rt_anti _ _ U_pos, ?_, hl, g1, g2, ?_⟩, g3⟩
  · have := Nat.mul_pos (M_pos hr0) (M_pos hq0)
    unfold Rt; omega
  · refine link_ratio U_pos U_pos ?_
    have h1 := M_fr r hr0
    have h2 := M_fr q hq0
    have h3 : M r * M q * 2 ^ ((-(fe r)).toNat + (-(fe q)).toNat) = M (frR r) * M (frR q) * 2 ^ ((fe r).toNat + (fe q).toNat) := by
      rw [Nat.pow_add, Nat.pow_add, Nat.mul_mul_mul_comm, h1, h2, Nat.mul_mul_mul_comm]
    have h4 := (pow_eq _ _ _ _ (-(fe r + fe q)).toNat (fe r + fe q).toNat (by omega)).1 h3
    rw [Nat.mul_right_comm, h4, Nat.mul_right_comm]
theorem quo_scaled (r q l : Nat) (hr0 : 0 < r) (hq0 : 0 < q) (hl : Faith (Rt (M (frR r) * U) (M (frR q))) l) :
    Scaled (Rt (M r * U) (M q)) (Rt (M (frR r) * U) (M (frR q))) (fe r - fe q) l ∧ 600 * 4503599627370496 ≤ l ∧ l ≤ 2000 * 4503599627370496 := by
  obtain ⟨e, he⟩ : ∃ e : Nat, e = 1021 := ⟨_, rfl⟩
  obtain ⟨a, ha⟩ : ∃ a : Nat, a = 651 := ⟨_, rfl⟩
  obtain ⟨b, hb⟩ : ∃ b : Nat, b = 2051 := ⟨_, rfl⟩
  have hE := EE_eq
  obtain ⟨r1, r2⟩ := M_fr_pow r e he
  obtain ⟨q1, q2⟩ := M_fr_pow q e he
  obtain ⟨g1, g2, g3⟩ := range_of hl (by
    rw [Rt_nonneg, M_600 a ha]
    calc 2 ^ a * M (frR q) ≤ 2 ^ a * 2 ^ (53 + e) := Nat.mul_le_mul_left _ (Nat.le_of_lt q2)
      _ = 2 ^ (a + (53 + e)) := (Nat.pow_add ..).symm
      _ ≤ 2 ^ (52 + e + EE) := p2_le (by omega)
      _ = 2 ^ (52 + e) * U := by unfold U; rw [Nat.pow_add]
      _ ≤ _ := Nat.mul_le_mul_right _ r1) (by
    rw [Rt_nonpos, M_2000 b hb]
    calc M (frR r) * U ≤ 2 ^ (53 + e) * U := Nat.mul_le_mul_right _ (Nat.le_of_lt r2)
      _ = 2 ^ (53 + e + EE) := by unfold U; rw [Nat.pow_add _ (53 + e) EE]
      _ ≤ 2 ^ (b + (52 + e)) := p2_le (by omega)
      _ = 2 ^ b * 2 ^ (52 + e) := Nat.pow_add ..
      _ ≤ _ := Nat.mul_le_mul_left _ q1)
  refine ⟨⟨Rt_anti _ _ (M_pos hq0), Rt_anti _ _ (M_pos (frR_pos q)), ?_, hl, g1, g2, ?_⟩, g3⟩
  · have := Nat.mul_pos (M_pos hr0) U_pos
    unfold Rt; omega
  · refine link_ratio (M_pos hq0) (M_pos (frR_pos q)) ?_
    have h1 := M_fr r hr0
    have h2 := M_fr q hq0
    have h3 : M r * M (frR q) * 2 ^ ((-(fe r)).toNat + (fe q).toNat) = M (frR r) * M q * 2 ^ ((fe r).toNat + (-(fe q)).toNat) := by
      rw [Nat.pow_add, Nat.pow_add, Nat.mul_mul_mul_comm, h1, ← h2, Nat.mul_mul_mul_comm]
    have h4 := (pow_eq _ _ _ _ (-(fe r - fe q)).toNat (fe r - fe q).toNat (by omega)).1 h3
    rw [Nat.mul_right_comm (M r) U, Nat.mul_right_comm _ U, h4, Nat.mul_right_comm (M (frR r)) U, Nat.mul_right_comm _ U]

/-- The fraction under the root, its exponent made even; the half of that. -/
def rr (r : Nat) : Nat := if fe r % 2 = 0 then frR r else frR r + 4503599627370496
def rn (r : Nat) : Int := fe r / 2
theorem M_rr (r e : Nat) (he : e = 1021) : M (rr r) = (if fe r % 2 = 0 then mant r else 2 * mant r) * 2 ^ e := by
  have h1 := mant_ge r
  have h2 := mant_lt r
  unfold rr
  split
  · exact M_frR r e he
  · have : frR r + 4503599627370496 = (e + 1) * 4503599627370496 + mant r := by unfold frR; omega
    rw [this, M_pack _ _ (by omega) (by omega), Nat.pow_succ, Nat.mul_comm (2 ^ e) 2, ← Nat.mul_assoc, Nat.mul_comm (mant r) 2]
theorem rr_lt (r : Nat) : rr r < INF := by have := mant_lt r; rw [INF_eq]; unfold rr frR; split <;> omega
theorem rr_pos (r : Nat) : 0 < rr r := by unfold rr frR; split <;> omega
theorem M_rr_pow (r e : Nat) (he : e = 1021) : 2 ^ (52 + e) ≤ M (rr r) ∧ M (rr r) < 2 ^ (54 + e) := by
  have h1 := (mant_pow r).1
  have h2 := (mant_pow r).2
  rw [M_rr r e he, Nat.pow_add, Nat.pow_add]
  have e54 : 2 ^ 54 = 2 * 2 ^ 53 := by decide
  exact ⟨Nat.mul_le_mul_right _ (by split <;> omega), Nat.mul_lt_mul_of_pos_right (by split <;> omega) (Nat.two_pow_pos _)⟩
theorem root_scaled (r l : Nat) (hr0 : 0 < r) (hl : Faith (Sq (M (rr r) * U)) l) :
    Scaled (Sq (M r * U)) (Sq (M (rr r) * U)) (rn r) l ∧ 600 * 4503599627370496 ≤ l ∧ l ≤ 2000 * 4503599627370496 := by
  obtain ⟨e, he⟩ : ∃ e : Nat, e = 1021 := ⟨_, rfl⟩
  obtain ⟨a, ha⟩ : ∃ a : Nat, a = 651 := ⟨_, rfl⟩
  obtain ⟨b, hb⟩ : ∃ b : Nat, b = 2051 := ⟨_, rfl⟩
  have hE := EE_eq
  obtain ⟨r1, r2⟩ := M_rr_pow r e he
  obtain ⟨g1, g2, g3⟩ := range_of hl (by
    rw [Sq_nonneg, M_600 a ha]
    calc 2 ^ a * 2 ^ a = 2 ^ (a + a) := (Nat.pow_add ..).symm
      _ ≤ 2 ^ (52 + e + EE) := p2_le (by omega)
      _ = 2 ^ (52 + e) * U := by unfold U; rw [Nat.pow_add]
      _ ≤ _ := Nat.mul_le_mul_right _ r1) (by
    rw [Sq_nonpos, M_2000 b hb]
    calc M (rr r) * U ≤ 2 ^ (54 + e) * U := Nat.mul_le_mul_right _ (Nat.le_of_lt r2)
      _ = 2 ^ (54 + e + EE) := by unfold U; rw [Nat.pow_add _ (54 + e) EE]
      _ ≤ 2 ^ (b + b) := p2_le (by omega)
      _ = 2 ^ b * 2 ^ b := Nat.pow_add ..)
  refine ⟨⟨Sq_anti _, Sq_anti _, ?_, hl, g1, g2, ?_⟩, g3⟩
  · have := Nat.mul_pos (M_pos hr0) U_pos
    unfold Sq; omega
  · refine link_sq ?_
    have h1 := M_fe r hr0
    rw [Nat.mul_right_comm (M r) U, Nat.mul_right_comm (M (rr r)) U, ← Nat.pow_add, ← Nat.pow_add]
    congr 1
    rw [M_rr r e he]
    by_cases hev : fe r % 2 = 0
    · rw [if_pos hev, Nat.mul_assoc, ← Nat.pow_add]
      exact (pow_eq _ _ _ _ _ _ (by unfold rn; omega)).1 h1
    · rw [if_neg hev, Nat.mul_assoc, ← Nat.pow_add, Nat.mul_comm 2 (mant r), Nat.mul_assoc, Nat.mul_comm 2, ← Nat.pow_succ]
      exact (pow_eq _ _ _ _ _ _ (by unfold rn; omega)).1 h1

-- the tails
theorem V_mul (s t : Bool) (a b : Nat) : V s a * V t b = if s ^^ t then -((M a * M b : Nat) : Int) else ((M a * M b : Nat) : Int) := by
  unfold V; cases s <;> cases t <;> simp [Int.neg_mul, Int.mul_neg]
theorem prod_tail (s t : Bool) (r q l : Nat) (E : Int) (hE : E = V s (frR r) * V t (frR q) + V (!(s ^^ t)) l * (U : Int)) :
    (E = if s ^^ t then -(Rt (M (frR r) * M (frR q)) U (M l)) else Rt (M (frR r) * M (frR q)) U (M l)) ∧ ∃ c : Int, E = c * U := by
  obtain ⟨e, he⟩ : ∃ e : Nat, e = 1021 := ⟨_, rfl⟩
  have hEE := EE_eq
  have h1 : E = if s ^^ t then -(Rt (M (frR r) * M (frR q)) U (M l)) else Rt (M (frR r) * M (frR q)) U (M l) := by
    rw [hE, V_mul]
    unfold V Rt
    cases s <;> cases t <;> simp [Int.neg_mul] <;> omega
  refine ⟨h1, ?_⟩
  obtain ⟨k, hk⟩ := U_dvd (mant r) e (mant q) e (by omega)
  rw [← M_frR r e he, ← M_frR q e he] at hk
  rw [hE, V_mul, hk]
  refine ⟨(if s ^^ t then -(k : Int) else k) + V (!(s ^^ t)) l, ?_⟩
  rw [Int.add_mul]
  congr 1
  split <;> simp [Int.neg_mul]
theorem quo_tail (s t : Bool) (r q l : Nat) (hl : 600 * 4503599627370496 ≤ l) (E : Int) (hE : E = V (!(s ^^ t)) l * V t (frR q) + V s (frR r) * (U : Int)) :
    (E = if s then -(Rt (M (frR r) * U) (M (frR q)) (M l)) else Rt (M (frR r) * U) (M (frR q)) (M l)) ∧ ∃ c : Int, E = c * U := by
  obtain ⟨e, he⟩ : ∃ e : Nat, e = 1021 := ⟨_, rfl⟩
  have hEE := EE_eq
  have h1 : E = if s then -(Rt (M (frR r) * U) (M (frR q)) (M l)) else Rt (M (frR r) * U) (M (frR q)) (M l) := by
    rw [hE, V_mul]
    unfold V Rt
    cases s <;> cases t <;> simp [Int.neg_mul] <;> omega
  refine ⟨h1, ?_⟩
  obtain ⟨c, hc⟩ := M_big l hl
  obtain ⟨k, hk⟩ := U_dvd c 599 (mant q) e (by omega)
  rw [← hc, ← M_frR q e he] at hk
  rw [hE, V_mul, hk]
  refine ⟨(if (!(s ^^ t)) ^^ t then -(k : Int) else k) + V s (frR r), ?_⟩
  rw [Int.add_mul]
  congr 1
  split <;> simp [Int.neg_mul]
theorem root_tail (r l : Nat) (hl : 600 * 4503599627370496 ≤ l) (E : Int) (hE : E = V true l * V false l + V false (rr r) * (U : Int)) :
    E = Sq (M (rr r) * U) (M l) ∧ ∃ c : Int, E = c * U := by
  have hEE := EE_eq
  have h1 : E = Sq (M (rr r) * U) (M l) := by
    rw [hE, V_mul]
    unfold V Sq
    simp; omega
  refine ⟨h1, ?_⟩
  obtain ⟨c, hc⟩ := M_big l hl
  obtain ⟨k, hk⟩ := U_dvd c 599 c 599 (by omega)
  rw [← hc] at hk
  have hneg : V true l * V false l = -((M l * M l : Nat) : Int) := by rw [V_mul]; rfl
  rw [hE, hneg, hk]
  refine ⟨-(k : Int) + V false (rr r), ?_⟩
  rw [Int.add_mul, Int.neg_mul, Int.natCast_mul]
theorem fr_le_U (q : Nat) : M (frR q) ≤ U := by
  obtain ⟨e, he⟩ : ∃ e : Nat, e = 1021 := ⟨_, rfl⟩
  obtain ⟨_, q2⟩ := M_fr_pow q e he
  have hE := EE_eq
  unfold U
  rw [show EE = 53 + e by omega]
  omega
theorem V_natAbs (s : Bool) (r : Nat) : (V s r).natAbs = M r := by unfold V; cases s <;> simp
/-- What is left of a quotient is a number. -/
theorem quo_rest (s t u : Bool) (r q l : Nat) (hl : l ≤ 2000 * 4503599627370496) : (V u l * V t (frR q) + V s (frR r) * (U : Int)).natAbs ≤ M (2040 * 4503599627370496) * U := by
  obtain ⟨e, he⟩ : ∃ e : Nat, e = 1021 := ⟨_, rfl⟩
  obtain ⟨b, hb⟩ : ∃ b : Nat, b = 2051 := ⟨_, rfl⟩
  obtain ⟨c, hc⟩ : ∃ c : Nat, c = 2039 := ⟨_, rfl⟩
  have hE := EE_eq
  have h1 := Int.natAbs_add_le (V u l * V t (frR q)) (V s (frR r) * (U : Int))
  rw [Int.natAbs_mul, Int.natAbs_mul, V_natAbs, V_natAbs, V_natAbs, Int.natAbs_natCast] at h1
  obtain ⟨r1, r2⟩ := M_fr_pow r e he
  obtain ⟨q1, q2⟩ := M_fr_pow q e he
  have h2 : M l ≤ 2 ^ b := by rw [← M_2000 b hb]; exact M_le hl
  have h3 : M l * M (frR q) ≤ 2 ^ (b + (53 + e)) := by rw [Nat.pow_add]; exact Nat.mul_le_mul h2 (Nat.le_of_lt q2)
  have h4 : M (frR r) * U ≤ 2 ^ (53 + e + EE) := by rw [Nat.pow_add _ (53 + e) EE]; exact Nat.mul_le_mul_right _ (Nat.le_of_lt r2)
  have h5 : M (2040 * 4503599627370496) = 2 ^ (52 + c) := by
    have := M_at c
    rwa [show (c + 1) * 4503599627370496 = 2040 * 4503599627370496 by omega] at this
  have h6 : M (2040 * 4503599627370496) * U = 2 ^ (52 + c + EE) := by rw [h5]; unfold U; rw [Nat.pow_add _ (52 + c) EE]
  have h7 : 2 ^ (b + (53 + e)) ≤ 2 ^ (51 + c + EE) := p2_le (by omega)
  have h8 : 2 ^ (53 + e + EE) ≤ 2 ^ (51 + c + EE) := p2_le (by omega)
  have h9 : 2 ^ (52 + c + EE) = 2 * 2 ^ (51 + c + EE) := by rw [show 52 + c + EE = (51 + c + EE) + 1 by omega, Nat.pow_succ]; omega
  omega
end Go.Proofs.Ytiohmafmkdbljaa.Fl
