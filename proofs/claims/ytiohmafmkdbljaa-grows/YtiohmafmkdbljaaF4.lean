import Derived.Test.YtiohmafmkdbljaaF3
import Derived.Laws.BitsAllLaws
namespace Go.Proofs.Ytiohmafmkdbljaa.Fl
open Ieee

theorem W_lt (s : Bool) (r : Nat) (h : r < 9223372036854775808) : W s r < 18446744073709551616 := by
  unfold W; split <;> omega

theorem Faith.exact {C : Nat → Int} {r k : Nat} (h : Faith C r) (hk : k ≤ INF) (e : C (M k) = 0) : r = k :=
  Nat.le_antisymm ((h.2 k hk).2 (by omega)) ((h.2 k hk).1 (by omega))

-- bits of words
theorem abs_bits (s : Bool) (r : Nat) (h : r < 9223372036854775808) : (bits .andNot .u64 (W s r : Int) 9223372036854775808).toNat = r := by
  have := u64_andNot_nat (W s r) 9223372036854775808 (W_lt s r h) (by decide)
  rw [show ((9223372036854775808 : Nat) : Int) = 9223372036854775808 from rfl] at this
  rw [this, Int.toNat_natCast]
  rw [show (18446744073709551615 - 9223372036854775808 : Nat) = 2 ^ 63 - 1 by decide, Nat.and_two_pow_sub_one_eq_mod]
  unfold W; cases s <;> simp <;> omega

theorem sign_bits (s : Bool) (r : Nat) (h : r < 9223372036854775808) : bits .and .u64 (W s r : Int) 9223372036854775808 = (W s 0 : Nat) := by
  have := u64_and_nat (W s r) 9223372036854775808 (W_lt s r h) (by decide)
  rw [show ((9223372036854775808 : Nat) : Int) = 9223372036854775808 from rfl] at this
  rw [this]
  rw [show (9223372036854775808 : Nat) = 2 ^ 63 by decide, nat_bit]
  congr 1
  unfold W; cases s
  · simp; omega
  · simp only [if_true]
    rw [show (2 ^ 63 : Nat) = 9223372036854775808 by decide]; omega

theorem or_sign (s : Bool) (r : Nat) (h : r < 9223372036854775808) : bits .or .u64 (r : Int) (W s 0 : Nat) = (W s r : Nat) := by
  have := u64_or_nat r (W s 0) (by omega) (W_lt s 0 (by decide))
  rw [this]
  congr 1
  rw [Nat.or_comm]
  have h1 := nat_join 63 (W s 0) r (by unfold W; cases s <;> decide) (by simpa using h)
  rw [h1]; unfold W; cases s <;> simp

/-- The exponent cleared. -/
theorem clear_bits (s : Bool) (r : Nat) (h : r < 9223372036854775808) : bits .andNot .u64 (W s r : Int) 9218868437227405312 = (W s (r % 4503599627370496) : Nat) := by
  have := u64_andNot_nat (W s r) 9218868437227405312 (W_lt s r h) (by decide)
  rw [show ((9218868437227405312 : Nat) : Int) = 9218868437227405312 from rfl] at this
  rw [this]
  congr 1
  rw [show (18446744073709551615 - 9218868437227405312 : Nat) = 2 ^ 63 ||| (2 ^ 52 - 1) by decide, Nat.and_or_distrib_left, nat_bit, Nat.and_two_pow_sub_one_eq_mod]
  rw [nat_join 63 _ _ (by rw [Nat.mul_mod_left]) (by
    have : W s r % 2 ^ 52 < 2 ^ 52 := Nat.mod_lt _ (by decide)
    exact Nat.lt_of_lt_of_le this (by decide))]
  rw [show (2 ^ 63 : Nat) = 9223372036854775808 by decide, show (2 ^ 52 : Nat) = 4503599627370496 by decide]
  unfold W; cases s
  · simp; omega
  · simp only [if_true]; omega

/-- An exponent set. -/
theorem set_nat (s : Bool) (k f : Nat) (hk : k < 2048) (hf : f < 4503599627370496) : W s f ||| k * 4503599627370496 = W s (k * 4503599627370496 + f) := by
  have j1 : f ||| k * 4503599627370496 = k * 4503599627370496 + f := by
    rw [Nat.or_comm]
    exact nat_join 52 (k * 4503599627370496) f (by rw [show (2 ^ 52 : Nat) = 4503599627370496 by decide]; exact Nat.mul_mod_left _ _) (by rw [show (2 ^ 52 : Nat) = 4503599627370496 by decide]; exact hf)
  cases s
  · unfold W; simpa using j1
  · unfold W
    simp only [if_true]
    have j2 := nat_join 63 9223372036854775808 f (by decide) (by rw [show (2 ^ 63 : Nat) = 9223372036854775808 by decide]; omega)
    have j3 := nat_join 63 9223372036854775808 (k * 4503599627370496 + f) (by decide) (by rw [show (2 ^ 63 : Nat) = 9223372036854775808 by decide]; omega)
    rw [← j2, Nat.or_assoc, j1, j3]

theorem set_bits (s : Bool) (k f : Nat) (hk : k < 2048) (hf : f < 4503599627370496) : bits .or .u64 (W s f : Int) ((k * 4503599627370496 : Nat) : Int) = (W s (k * 4503599627370496 + f) : Nat) := by
  have := u64_or_nat (W s f) (k * 4503599627370496) (W_lt s f (by omega)) (by omega)
  rw [this, set_nat s k f hk hf]

/-- The exponent's field. -/
theorem field_eq (s : Bool) (r : Nat) (h : r < 9223372036854775808) : W s r / 4503599627370496 % 2048 = r / 4503599627370496 := by
  unfold W; cases s <;> simp <;> omega

-- what is next
def nextUp (s : Bool) (r : Nat) : Nat := if r = 0 then W false 1 else if s then W true (r - 1) else if r = INF then W false r else W false (r + 1)
def nextDn (s : Bool) (r : Nat) : Nat := if r = 0 then W true 1 else if s then (if r = INF then W true r else W true (r + 1)) else W false (r - 1)

theorem M_le_INF {r : Nat} (h : r < INF) : M r < M INF := M_lt h

theorem V_zero (s : Bool) : V s 0 = 0 := by unfold V; rw [M_zero]; cases s <;> simp
theorem V_pos {r : Nat} (h : 0 < r) : 0 < V false r := by have := M_pos h; simp [V]; omega
theorem V_neg {r : Nat} (h : 0 < r) : V true r < 0 := by have := M_pos h; simp [V]; omega

-- comparisons
theorem W_zero : W false 0 = 0 := by simp [W]
theorem order_self (s : Bool) (r : Nat) (h : r ≤ INF) : double.order (W s r) (W s r) = some .eq := by
  by_cases e : r = INF
  · subst e; rw [order_inf_inf]; cases s <;> rfl
  · rw [order_fin s s r r (by omega) (by omega)]; simp
theorem order_zero' (s : Bool) (r : Nat) (h : r < 9223372036854775808) : (double.order (W s r) (W false 0) == some .eq) = decide (r = 0) := by
  by_cases h1 : r < INF
  · rw [order_fin s false r 0 h1 (by decide), V_zero]
    by_cases e : r = 0
    · subst e; rw [V_zero]; simp
    · have h0 : 0 < r := by omega
      have : compare (V s r) 0 ≠ .eq := by
        cases s
        · have := V_pos h0; intro h; rw [Int.compare_eq_eq] at h; omega
        · have := V_neg h0; intro h; rw [Int.compare_eq_eq] at h; omega
      simp [e, this]
  · have hn : r ≠ 0 := by rw [INF_eq] at h1; omega
    by_cases e : r = INF
    · subst e; rw [order_inf_fin s false 0 (by decide)]; cases s <;> simp [hn]
    · rw [order_nan_l s r _ (by omega) h]
      simp [hn]
theorem order_zero (s : Bool) (r : Nat) (h : r < 9223372036854775808) : (double.order (W s r) 0 == some .eq) = decide (r = 0) := by
  have := order_zero' s r h
  rwa [W_zero] at this
/-- Greater than MAX. -/
theorem MAXR : 9218868437227405311 < INF := by rw [INF_eq]; omega
theorem order_top (r q : Nat) (hq : q + 1 = INF) (h : r < 9223372036854775808) : (double.order (W false r) (W false q) == some .gt) = decide (r = INF) := by
  have hq' : q < INF := by omega
  by_cases h1 : r < INF
  · rw [order_fin false false r _ h1 hq']
    have h2 : r ≤ q := by omega
    have : V false r ≤ V false q := by have := M_le h2; unfold V; simp only [Bool.false_eq_true, if_false]; omega
    have hne : compare (V false r) (V false q) ≠ .gt := by intro h; rw [Int.compare_eq_gt] at h; omega
    have hn : r ≠ INF := by omega
    simp [hne, hn]
  · by_cases e : r = INF
    · subst e; rw [order_inf_fin false false _ hq']; simp
    · rw [order_nan_l false r _ (by omega) h]; simp [e]
theorem W_false (r : Nat) : W false r = r := by simp [W]
theorem MAX_eq : 9218868437227405311 + 1 = INF := by rw [INF_eq]
theorem order_max (r : Nat) (h : r < 9223372036854775808) : (double.order (W false r) 9218868437227405311 == some .gt) = decide (r = INF) := by
  have := order_top r 9218868437227405311 MAX_eq h
  rwa [W_false 9218868437227405311] at this
theorem V_lt_pos (r q : Nat) : V false r < V false q ↔ r < q := by
  unfold V; simp only [Bool.false_eq_true, if_false]
  exact ⟨fun h => lt_of_M (by omega), fun h => by have := M_lt h; omega⟩
theorem order_lt_pos (r q : Nat) (hr : r < INF) (hq : q < INF) : (double.order (W false r) (W false q) == some .lt) = decide (r < q) := by
  rw [order_fin false false r q hr hq]
  by_cases hl : r < q
  · rw [Int.compare_eq_lt.2 ((V_lt_pos r q).2 hl)]; simp [hl]
  · have hn : compare (V false r) (V false q) ≠ .lt := by rw [Ne, Int.compare_eq_lt, V_lt_pos]; exact hl
    simp [hl, hn]
end Go.Proofs.Ytiohmafmkdbljaa.Fl
