import Derived.Test.YtiohmafmkdbljaaF5
namespace Go.Proofs.Ytiohmafmkdbljaa.Fl
open Ieee

/-- The field of the exponent, behind a name. -/
def fld (q : Nat) : Nat := q / 4503599627370496
/-- 'x << 52' of a uint64. -/
def sh52 (x : Int) : Int := x * 4503599627370496 % 18446744073709551616
/-- An exponent's field and a fraction. -/
def stE (y : Int) (f : Nat) : Nat := y.toNat * 4503599627370496 + f
theorem or52 (s : Bool) (f : Nat) (y : Int) (hf : f < 4503599627370496) (h0 : 0 ≤ y) (h1 : y ≤ 2047) : bits .or .u64 (W s f : Int) (sh52 y) = (W s (stE y f) : Nat) := by
  have h := set_bits s y.toNat f (by omega) hf
  have e : sh52 y = ((y.toNat * 4503599627370496 : Nat) : Int) := by unfold sh52; omega
  rw [e]; exact h

theorem Rt_exact (z D : Nat) (hD : 0 < D) (hz : z ≤ INF) : Faith (Rt (M z * D) D) z := by
  refine ⟨hz, fun k _ => ⟨fun h => ?_, fun h => ?_⟩⟩
  · rw [Rt_nonneg] at h; exact le_of_M (Nat.le_of_mul_le_mul_right h hD)
  · rw [Rt_nonpos] at h; exact le_of_M (Nat.le_of_mul_le_mul_right h hD)

theorem mul_one' (s : Bool) (z : Nat) (hz : z < INF) : double.mul 4607182418800017408 (W s z) = some (W s z) := by
  obtain ⟨z', h, hf⟩ := mul_fin false s 4607182418800017408 z (by rw [INF_eq]; omega) hz
  rw [W_false 4607182418800017408] at h
  have : z' = z := hf.exact (Nat.le_of_lt hz) (by
    unfold Rt; rw [M_oneW, Nat.mul_comm]; omega)
  rw [h, this]; simp

theorem mul_half53 (s : Bool) (z : Nat) (hz : z < INF) : ∃ z', double.mul 4368491638549381120 (W s z) = some (W s z') ∧ Faith (Rt (M z) 9007199254740992) z' := by
  obtain ⟨z', h, hf⟩ := mul_fin false s 4368491638549381120 z (by rw [INF_eq]; omega) hz
  rw [W_false 4368491638549381120] at h
  refine ⟨z', by rw [h]; simp, Rt_scale (by omega) ?_ hf⟩
  rw [← M_two53, Nat.mul_comm (M 4368491638549381120) (M z), Nat.mul_assoc]

/-- The exponent at which Ldexp ends. -/
def lx (r : Nat) (n : Int) : Int := n + eo r + (fld (nr r) - 1023)
def LdOk (r : Nat) (n : Int) (z : Nat) : Prop := Faith (Rt (M r * 2 ^ n.toNat) (2 ^ (-n).toNat)) z

theorem LdOk_of (r : Nat) (n : Int) (z : Nat) (h0 : 0 < r) (h : Faith (Rt (mant r * 2 ^ (lx r n + 1022).toNat) (2 ^ (-(lx r n + 1022)).toNat)) z) : LdOk r n z := by
  refine Rt_scale (Nat.two_pow_pos _) ?_ h
  have h1 := M_fe r h0
  have h2 : fe r + 1021 = lx r n + 1022 - n := by unfold fe lx fld; omega
  rw [h2] at h1
  rw [Nat.mul_assoc, ← Nat.pow_add, Nat.mul_assoc, ← Nat.pow_add]
  exact (pow_eq (mant r) (M r) _ _ _ _ (by omega)).1 h1.symm

theorem Ld_A (r : Nat) (n : Int) (h0 : 0 < r) (hx : lx r n < -1075) : LdOk r n 0 := by
  refine LdOk_of r n 0 h0 ⟨Nat.zero_le _, fun k _ => ⟨fun h => ?_, fun _ => Nat.zero_le _⟩⟩
  rw [Rt_nonneg, show (lx r n + 1022).toNat = 0 by omega, Nat.pow_zero, Nat.mul_one] at h
  have hm := mant_lt r
  have hp : 2 ^ 53 ≤ 2 ^ (-(lx r n + 1022)).toNat := Nat.pow_le_pow_right (by omega) (by omega)
  rw [p53] at hp
  rcases Nat.eq_zero_or_pos k with h' | h'
  · omega
  · have h1 := M_pos h'
    have : 1 * 2 ^ (-(lx r n + 1022)).toNat ≤ M k * 2 ^ (-(lx r n + 1022)).toNat := Nat.mul_le_mul_right _ h1
    omega
theorem M_INF (e : Nat) (he : e = 2046) : M INF = 4503599627370496 * 2 ^ e := M_of_pow e _ (by rw [INF_eq]; omega)
theorem Ld_B (r : Nat) (n : Int) (h0 : 0 < r) (hx : 1023 < lx r n) : LdOk r n INF := by
  refine LdOk_of r n INF h0 ⟨Nat.le_refl _, fun k hk => ⟨fun _ => hk, fun h => ?_⟩⟩
  rw [Rt_nonpos, show (-(lx r n + 1022)).toNat = 0 by omega, Nat.pow_zero, Nat.mul_one] at h
  obtain ⟨e, he⟩ : ∃ e : Nat, e = 2046 := ⟨_, rfl⟩
  have hI := M_INF e he
  have hm := mant_ge r
  have hp : 2 ^ e ≤ 2 ^ (lx r n + 1022).toNat := Nat.pow_le_pow_right (by omega) (by omega)
  have : M INF ≤ mant r * 2 ^ (lx r n + 1022).toNat := by rw [hI]; exact Nat.mul_le_mul hm hp
  exact le_of_M (by omega)
theorem stE_C (r : Nat) (y : Int) (h0 : 1 ≤ y) (h1 : y ≤ 2046) : stE y (nr r % 4503599627370496) < INF ∧ M (stE y (nr r % 4503599627370496)) = mant r * 2 ^ (y - 1).toNat := by
  have hm := mant_lt r
  have hm' := mant_ge r
  have e : stE y (nr r % 4503599627370496) = (y - 1).toNat * 4503599627370496 + mant r := by unfold stE mant; omega
  rw [e]
  exact ⟨by rw [INF_eq]; omega, M_pack _ _ (by omega) (by omega)⟩
theorem Ld_C (r : Nat) (n : Int) (h0 : 0 < r) (hx : -1022 ≤ lx r n) (hx' : lx r n ≤ 1023) : LdOk r n (stE (lx r n + 1023) (nr r % 4503599627370496)) := by
  obtain ⟨h1, h2⟩ := stE_C r (lx r n + 1023) (by omega) (by omega)
  refine LdOk_of r n _ h0 ?_
  have e : (lx r n + 1023 - 1).toNat = (lx r n + 1022).toNat := by omega
  rw [e] at h2
  rw [← h2, show (-(lx r n + 1022)).toNat = 0 by omega, Nat.pow_zero]
  have := Rt_exact (stE (lx r n + 1023) (nr r % 4503599627370496)) 1 (by omega) (Nat.le_of_lt h1)
  rwa [Nat.mul_one] at this
theorem Ld_D (r : Nat) (n : Int) (z : Nat) (h0 : 0 < r) (hx : -1075 ≤ lx r n) (hx' : lx r n < -1022)
    (h : Faith (Rt (M (stE (lx r n + 53 + 1023) (nr r % 4503599627370496))) 9007199254740992) z) : LdOk r n z := by
  obtain ⟨h1, h2⟩ := stE_C r (lx r n + 53 + 1023) (by omega) (by omega)
  refine LdOk_of r n _ h0 ?_
  rw [h2] at h
  refine Rt_scale (Nat.two_pow_pos _) ?_ h
  rw [show (lx r n + 1022).toNat = 0 by omega, Nat.pow_zero, Nat.mul_one, Nat.mul_assoc, ← Nat.pow_add, ← p53]
  congr 2; omega
end Go.Proofs.Ytiohmafmkdbljaa.Fl
