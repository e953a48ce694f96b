import Derived.Test.YtiohmafmkdbljaaF4
namespace Go.Proofs.Ytiohmafmkdbljaa.Fl
open Ieee

/-- The rung of a small one times 2^52. -/
def big (r : Nat) : Nat := r.log2 * 4503599627370496 + r * 2 ^ (52 - r.log2)
theorem big_spec (r : Nat) (h0 : 0 < r) (h : r < 4503599627370496) : 4503599627370496 ≤ big r ∧ big r < INF ∧ M (big r) = r * 4503599627370496 := by
  have hl : r.log2 < 52 := (Nat.log2_lt (by omega)).2 (by simpa using h)
  have h1 : r < 2 ^ (r.log2 + 1) := Nat.lt_log2_self
  have h2 : 2 ^ r.log2 ≤ r := Nat.log2_self_le (by omega)
  have a1 : 4503599627370496 ≤ r * 2 ^ (52 - r.log2) := by
    calc 4503599627370496 = 2 ^ r.log2 * 2 ^ (52 - r.log2) := by rw [← Nat.pow_add, show r.log2 + (52 - r.log2) = 52 by omega]
      _ ≤ _ := Nat.mul_le_mul_right _ h2
  have a2 : r * 2 ^ (52 - r.log2) < 9007199254740992 := by
    calc r * 2 ^ (52 - r.log2) < 2 ^ (r.log2 + 1) * 2 ^ (52 - r.log2) := Nat.mul_lt_mul_of_pos_right h1 (Nat.two_pow_pos _)
      _ = 9007199254740992 := by rw [← Nat.pow_add, show r.log2 + 1 + (52 - r.log2) = 53 by omega]
  refine ⟨by unfold big; omega, by rw [INF_eq]; unfold big; omega, ?_⟩
  unfold big
  rw [M_pack _ _ (by omega) (by omega), Nat.mul_assoc, ← Nat.pow_add, show 52 - r.log2 + r.log2 = 52 by omega]

theorem M_small (r : Nat) (h : r < 4503599627370496) : M r = r := by
  unfold M mg
  rw [if_pos h, show r / 4503599627370496 - 1 = 0 by omega]; simp

/-- A normal one: its digits. -/
theorem M_norm (r : Nat) (h : 4503599627370496 ≤ r) : M r = (4503599627370496 + r % 4503599627370496) * 2 ^ (r / 4503599627370496 - 1) := by
  unfold M mg
  rw [if_neg (by omega)]

theorem M_of_pow (e R : Nat) (h : R = (e + 1) * 4503599627370496) : M R = 4503599627370496 * 2 ^ e := by
  have hR : R = e * 4503599627370496 + 4503599627370496 := by omega
  rw [hR]
  exact M_pack e 4503599627370496 (by omega) (by omega)
theorem U_split (a b : Nat) (h : a + b = EE) : U = 2 ^ a * 2 ^ b := by
  unfold U; rw [← h, Nat.pow_add]
theorem p52 : 2 ^ 52 = 4503599627370496 := by decide
theorem p53 : 2 ^ 53 = 9007199254740992 := by decide

/-- 2^52 as a word, and its worth. -/
theorem M_two52 : M 4841369599423283200 = 4503599627370496 * U := by
  obtain ⟨e, he⟩ : ∃ e, e = EE := ⟨_, rfl⟩
  unfold U
  rw [← he]
  exact M_of_pow e _ (by have := EE_eq; omega)
theorem M_oneW : M 4607182418800017408 = U := by
  obtain ⟨e, he⟩ : ∃ e, e = 1022 := ⟨_, rfl⟩
  rw [M_of_pow e _ (by omega), U_split 52 e (by have := EE_eq; omega), p52]
theorem M_two53 : M 4368491638549381120 * 9007199254740992 = U := by
  obtain ⟨e, he⟩ : ∃ e, e = 969 := ⟨_, rfl⟩
  obtain ⟨e', he'⟩ : ∃ e', e' = 52 + e := ⟨_, rfl⟩
  rw [M_of_pow e _ (by omega), U_split e' 53 (by have := EE_eq; omega), p53, he', Nat.pow_add, p52]

theorem mul_big (s : Bool) (r : Nat) (h0 : 0 < r) (h : r < 4503599627370496) : double.mul (W s r) 4841369599423283200 = some (W s (big r)) := by
  obtain ⟨b1, b2, b3⟩ := big_spec r h0 h
  obtain ⟨z, hz, hf⟩ := mul_fin s false r 4841369599423283200 (by rw [INF_eq]; omega) (by rw [INF_eq]; omega)
  rw [W_false 4841369599423283200] at hz
  have : z = big r := hf.exact (Nat.le_of_lt b2) (by
    unfold Rt; rw [b3, M_two52, M_small r h, Nat.mul_assoc]; omega)
  rw [hz, this]; simp

theorem pow_eq (x y p q p' q' : Nat) (h : p + q' = p' + q) : x * 2 ^ p = y * 2 ^ q ↔ x * 2 ^ p' = y * 2 ^ q' := by
  have h1 := pow_cmp x y p q p' q' h
  have h2 := pow_cmp y x q p q' p' (by omega)
  omega

/-- What math.normalize makes of a rung; its exponent. -/
def nr (r : Nat) : Nat := if r < 4503599627370496 then big r else r
def eo (r : Nat) : Int := if r < 4503599627370496 then -52 else 0
/-- The 53 digits of a number. -/
def mant (r : Nat) : Nat := 4503599627370496 + nr r % 4503599627370496
/-- The exponent that Frexp gives. -/
def fe (r : Nat) : Int := eo r + ((nr r / 4503599627370496 : Nat) : Int) - 1022
theorem mant_ge (r : Nat) : 4503599627370496 ≤ mant r := by unfold mant; omega
theorem mant_lt (r : Nat) : mant r < 9007199254740992 := by unfold mant; omega
theorem nr_spec (r : Nat) (h0 : 0 < r) (h : r < INF) : 4503599627370496 ≤ nr r ∧ nr r < INF := by
  unfold nr; split
  · rename_i h1; have := big_spec r h0 h1; exact ⟨this.1, this.2.1⟩
  · omega
theorem fe_bd (r : Nat) (h0 : 0 < r) (h : r < INF) : -1073 ≤ fe r ∧ fe r ≤ 1024 := by
  obtain ⟨h1, h2⟩ := nr_spec r h0 h
  rw [INF_eq] at h2
  unfold fe eo; split <;> omega
theorem nr_ge (r : Nat) (h0 : 0 < r) : 4503599627370496 ≤ nr r := by
  unfold nr; split
  · rename_i h1; exact (big_spec r h0 h1).1
  · omega
theorem M_fe (r : Nat) (h0 : 0 < r) : M r * 2 ^ (-(fe r + 1021)).toNat = mant r * 2 ^ (fe r + 1021).toNat := by
  have h1 := nr_ge r h0
  have hM := M_norm (nr r) h1
  unfold fe mant
  by_cases hb : r < 4503599627370496
  · have e1 : nr r = big r := by unfold nr; rw [if_pos hb]
    have e2 : eo r = -52 := by unfold eo; rw [if_pos hb]
    rw [e1] at hM h1 ⊢
    rw [(big_spec r h0 hb).2.2] at hM
    rw [e2, M_small r hb]
    refine (pow_eq r _ 52 (big r / 4503599627370496 - 1) _ _ ?_).1 ?_
    · omega
    · rw [p52, hM]
  · have e1 : nr r = r := by unfold nr; rw [if_neg hb]
    have e2 : eo r = 0 := by unfold eo; rw [if_neg hb]
    rw [e1] at hM h1 ⊢
    rw [e2]
    refine (pow_eq (M r) _ 0 (r / 4503599627370496 - 1) _ _ ?_).1 ?_
    · omega
    · rw [Nat.pow_zero, Nat.mul_one, hM]
end Go.Proofs.Ytiohmafmkdbljaa.Fl
