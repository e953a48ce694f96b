import Derived.Test.YtacnclofbnafiaaW1
import Derived.Test.YtacnclofbnafiaaFA
namespace Go.Proofs.Ytacnclofbnafiaa
open Go.RowKit Fl

theorem order_lt_small (r : Nat) (hr : r < INF) : (Ieee.double.order (W false r) 4503599627370496 == some .lt) = decide (r < 4503599627370496) := by
  have h := order_lt_pos r 4503599627370496 hr (by rw [INF_eq]; omega)
  rwa [W_false 4503599627370496] at h

theorem normalize_big (s : Bool) (r : Nat) (hr : r < INF) (hb : 4503599627370496 ≤ r) (w : World) :
    Calls Try.prog 162 #[.float .f64 (W s r)] w fun e w' => e = .returned (.tuple #[.float .f64 (W s r), .int .i64 0]) ∧ w' = w := by
  have hr' : r < 9223372036854775808 := by rw [INF_eq] at hr; omega
  have h := order_lt_small r hr
  rw [decide_eq_false (by omega)] at h
  go_enter Try.func162, Try.ntmps162
  go_wp2_with (go_at_call 53; refine (abs_any _ _ hr' _).mono ?_; rintro e w' ⟨rfl, rfl⟩)
  go_ret2
  exact ⟨rfl, rfl⟩
theorem normalize_small (s : Bool) (r : Nat) (h0 : 0 < r) (hb : r < 4503599627370496) (w : World) :
    Calls Try.prog 162 #[.float .f64 (W s r)] w fun e w' => e = .returned (.tuple #[.float .f64 (W s (big r)), .int .i64 (-52)]) ∧ w' = w := by
  have hr' : r < 9223372036854775808 := by omega
  have h := order_lt_small r (by rw [INF_eq]; omega)
  rw [decide_eq_true hb] at h
  have hm := fun t w => run_float_arith (P := Try.prog) w .mul t .f64 (W s r) 4841369599423283200 _ (mul_big s r h0 hb)
  clear hb h0
  go_enter Try.func162, Try.ntmps162
  go_wp2_with (go_at_call 53; refine (abs_any _ _ hr' _).mono ?_; rintro e w' ⟨rfl, rfl⟩)
  go_ret2
  exact ⟨rfl, rfl⟩
theorem order_ne_zero (s : Bool) (r : Nat) (h0 : 0 < r) (h : r < 9223372036854775808) : (Ieee.double.order (W s r) 0 == some .eq) = false := by
  rw [order_zero s r h]; simp; omega
theorem exp_field (s : Bool) (r E : Nat) (hr : r < 9223372036854775808) (hE : r / 4503599627370496 = E) : bits .and .u64 ((W s r : Int) / 4503599627370496) 2047 = (E : Int) := by
  have h := u64_and_nat (W s r / 4503599627370496) 2047 (by have := W_lt s r hr; omega) (by omega)
  rw [show (2047 : Nat) = 2 ^ 11 - 1 by decide, Nat.and_two_pow_sub_one_eq_mod, show (2 ^ 11 : Nat) = 2048 by decide, field_eq s r hr, hE] at h
  simpa using h
theorem ret_fi {a b : Nat} {i j : Int} (h : a = b) (g : i = j) : Ending.returned (.tuple #[.float .f64 a, .int .i64 i]) = .returned (.tuple #[.float .f64 b, .int .i64 j]) := by rw [h, g]
theorem frexp_big (s : Bool) (r E f : Nat) (hr : r < INF) (hb : 4503599627370496 ≤ r) (hE : r / 4503599627370496 = E) (hf : r % 4503599627370496 = f) (w : World) :
    Calls Try.prog 181 #[.float .f64 (W s r)] w fun e w' => e = .returned (.tuple #[.float .f64 (W s (4602678819172646912 + f)), .int .i64 (E - 1022)]) ∧ w' = w := by
  have hr' : r < 9223372036854775808 := by rw [INF_eq] at hr; omega
  have hE1 : E ≤ 2046 := by rw [INF_eq] at hr; omega
  have h1 := order_ne_zero s r (by omega) hr'
  have h2 : decide (r = INF) = false := by simp; omega
  have hc := clear_bits s r hr'
  have hs : bits .or .u64 (W s f : Int) 4602678819172646912 = (W s (4602678819172646912 + f) : Nat) :=
    set_bits s 1022 f (by omega) (by omega)
  have hfld := exp_field s r E hr' hE
  rw [hf] at hc
  clear hE hf
  go_enter Try.func181, Try.ntmps181
  go_wp2_with (first
    | (go_at_call 29; refine (isInf0 _ _ hr' _).mono ?_; rintro e w' ⟨rfl, rfl⟩)
    | (go_at_call 92; refine (isNaN_no _ _ (Nat.le_of_lt hr) _).mono ?_; rintro e w' ⟨rfl, rfl⟩)
    | (go_at_call 162; refine (normalize_big _ _ hr hb _).mono ?_; rintro e w' ⟨rfl, rfl⟩))
  go_ret2
  exact ⟨ret_fi rfl (by omega), rfl⟩
theorem frexp_small (s : Bool) (r q E f : Nat) (h0 : 0 < r) (hr : r < 4503599627370496) (hq : big r = q) (hE : q / 4503599627370496 = E) (hf : q % 4503599627370496 = f) (w : World) :
    Calls Try.prog 181 #[.float .f64 (W s r)] w fun e w' => e = .returned (.tuple #[.float .f64 (W s (4602678819172646912 + f)), .int .i64 (-52 + (E - 1022))]) ∧ w' = w := by
  have hq1 : q < 9223372036854775808 := by have := (big_spec r h0 hr).2.1; rw [INF_eq] at this; omega
  have hE1 : E ≤ 2046 := by have := (big_spec r h0 hr).2.1; rw [INF_eq] at this; omega
  have hi : r < INF := by rw [INF_eq]; omega
  have hr' : r < 9223372036854775808 := by omega
  have h1 := order_ne_zero s r h0 hr'
  have h2 : decide (r = INF) = false := by simp; omega
  have hc := clear_bits s q hq1
  have hs : bits .or .u64 (W s f : Int) 4602678819172646912 = (W s (4602678819172646912 + f) : Nat) :=
    set_bits s 1022 f (by omega) (by omega)
  have hfld := exp_field s q E hq1 hE
  rw [hf] at hc
  clear hE hf
  go_enter Try.func181, Try.ntmps181
  go_wp2_with (first
    | (go_at_call 29; refine (isInf0 _ _ hr' _).mono ?_; rintro e w' ⟨rfl, rfl⟩)
    | (go_at_call 92; refine (isNaN_no _ _ (Nat.le_of_lt hi) _).mono ?_; rintro e w' ⟨rfl, rfl⟩)
    | (go_at_call 162; refine (normalize_small _ _ h0 hr _).mono ?_; rintro e w' ⟨rfl, rfl⟩))
  go_ret2
  exact ⟨ret_fi rfl (by omega), rfl⟩
theorem Frexp_any (s : Bool) (r : Nat) (h0 : 0 < r) (hr : r < INF) (w : World) :
    Calls Try.prog 166 #[.float .f64 (W s r)] w fun e w' => e = .returned (.tuple #[.float .f64 (W s (4598175219545276416 + mant r)), .int .i64 (fe r)]) ∧ w' = w := by
  have key : ∀ w : World, Calls Try.prog 181 #[.float .f64 (W s r)] w fun e w' => e = .returned (.tuple #[.float .f64 (W s (4598175219545276416 + mant r)), .int .i64 (fe r)]) ∧ w' = w := by
    intro w
    by_cases hb : r < 4503599627370496
    · have e1 : nr r = big r := by unfold nr; rw [if_pos hb]
      have e2 : eo r = -52 := by unfold eo; rw [if_pos hb]
      refine (frexp_small s r _ _ _ h0 hb rfl rfl rfl w).mono ?_
      rintro e w' ⟨rfl, rfl⟩
      refine ⟨ret_fi ?_ ?_, rfl⟩
      · unfold mant; rw [e1]; congr 1; omega
      · unfold fe; rw [e1, e2]; omega
    · have e1 : nr r = r := by unfold nr; rw [if_neg hb]
      have e2 : eo r = 0 := by unfold eo; rw [if_neg hb]
      refine (frexp_big s r _ _ hr (by omega) rfl rfl w).mono ?_
      rintro e w' ⟨rfl, rfl⟩
      refine ⟨ret_fi ?_ ?_, rfl⟩
      · unfold mant; rw [e1]; congr 1; omega
      · unfold fe; rw [e1, e2]; omega
  go_enter Try.func166, Try.ntmps166
  go_wp2_with (go_at_call 181; refine (key _).mono ?_; rintro e w' ⟨rfl, rfl⟩)
  go_ret2
  exact ⟨rfl, rfl⟩
theorem normalize_any (s : Bool) (r : Nat) (h0 : 0 < r) (hr : r < INF) (w : World) :
    Calls Try.prog 162 #[.float .f64 (W s r)] w fun e w' => e = .returned (.tuple #[.float .f64 (W s (nr r)), .int .i64 (eo r)]) ∧ w' = w := by
  by_cases hb : r < 4503599627370496
  · have e1 : nr r = big r := by unfold nr; rw [if_pos hb]
    have e2 : eo r = -52 := by unfold eo; rw [if_pos hb]
    rw [e1, e2]; exact normalize_small s r h0 hb w
  · have e1 : nr r = r := by unfold nr; rw [if_neg hb]
    have e2 : eo r = 0 := by unfold eo; rw [if_neg hb]
    rw [e1, e2]; exact normalize_big s r hr (by omega) w
end Go.Proofs.Ytacnclofbnafiaa
