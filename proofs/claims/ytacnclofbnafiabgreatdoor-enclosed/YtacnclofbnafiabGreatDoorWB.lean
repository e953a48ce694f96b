import Derived.Test.YtacnclofbnafiabGreatDoorChecked
import Derived.WalkKit
import Derived.Laws.FloatArith
import Derived.KernelRfl
import Derived.Test.YtacnclofbnafiabGreatDoorFA
namespace Go.Proofs.YtacnclofbnafiabGreatDoor
open Go.RowKit Fl

@[go_sem] theorem bits_run (b : Nat) (w : World) : (callFunc 42 #[.float .f64 b]).run Tryz.prog w = .ok (.value (.int .u64 b)) w := by
  rw [run_callFunc_extern Tryz.func42 (by kernel_rfl) (by kernel_rfl) (by kernel_rfl) (e := Extern.MathFloatBits.float64bits) (by kernel_rfl)]
  rfl
@[go_sem] theorem frombits_run (n : Int) (w : World) : (callFunc 81 #[.int .u64 n]).run Tryz.prog w = .ok (.value (.float .f64 n.toNat)) w := by
  rw [run_callFunc_extern Tryz.func81 (by kernel_rfl) (by kernel_rfl) (by kernel_rfl) (e := Extern.MathFloatBits.float64frombits) (by kernel_rfl)]
  rfl
theorem ret_float {a b : Nat} (h : a = b) : Ending.returned (.float .f64 a) = .returned (.float .f64 b) := by rw [h]
theorem ret_int {k : IntKind} {a b : Int} (h : a = b) : Ending.returned (.int k a) = .returned (.int k b) := by rw [h]
@[go_sem] theorem fmt64 : FloatKind.f64.format = Ieee.double := rfl

theorem abs_any (s : Bool) (r : Nat) (hr : r < 9223372036854775808) (w : World) :
    Calls Tryz.prog 44 #[.float .f64 (W s r)] w fun e w' => e = .returned (.float .f64 (W false r)) ∧ w' = w := by
  have hb := abs_bits s r hr
  go_enter Tryz.func44, Tryz.ntmps44
  go_wp2
  go_ret
  exact ⟨ret_float (W_false r).symm, rfl⟩
theorem isNaN_no (s : Bool) (r : Nat) (hr : r ≤ INF) (w : World) :
    Calls Tryz.prog 159 #[.float .f64 (W s r)] w fun e w' => e = .returned (.bool false) ∧ w' = w := by
  have h := order_self s r hr
  go_enter Tryz.func159, Tryz.ntmps159
  go_wp2
  go_ret
  exact ⟨rfl, rfl⟩
theorem isNaN_yes (s : Bool) (r : Nat) (hr : INF < r) (hr' : r < 9223372036854775808) (w : World) :
    Calls Tryz.prog 159 #[.float .f64 (W s r)] w fun e w' => e = .returned (.bool true) ∧ w' = w := by
  have h := order_nan_l s r (W s r) hr hr'
  go_enter Tryz.func159, Tryz.ntmps159
  go_wp2
  go_ret
  exact ⟨rfl, rfl⟩
theorem isInf0 (s : Bool) (r : Nat) (hr : r < 9223372036854775808) (w : World) :
    Calls Tryz.prog 60 #[.float .f64 (W s r), .int .i64 0] w fun e w' => e = .returned (.bool (decide (r = INF))) ∧ w' = w := by
  have h := order_max r hr
  go_enter Tryz.func60, Tryz.ntmps60
  go_wp2_with (go_at_call 44; refine (abs_any _ _ hr _).mono ?_; rintro e w' ⟨rfl, rfl⟩)
  go_ret
  exact ⟨rfl, rfl⟩
theorem isInf1 (r : Nat) (hr : r < 9223372036854775808) (w : World) :
    Calls Tryz.prog 60 #[.float .f64 (W false r), .int .i64 1] w fun e w' => e = .returned (.bool (decide (r = INF))) ∧ w' = w := by
  have h := order_max r hr
  go_enter Tryz.func60, Tryz.ntmps60
  go_wp2
  go_ret
  exact ⟨rfl, rfl⟩
theorem inf_pos (w : World) :
    Calls Tryz.prog 141 #[.int .i64 1] w fun e w' => e = .returned (.float .f64 (W false INF)) ∧ w' = w := by
  go_enter Tryz.func141, Tryz.ntmps141
  go_wp2
  go_ret
  exact ⟨rfl, rfl⟩
theorem inf_neg (w : World) :
    Calls Tryz.prog 141 #[.int .i64 (-1)] w fun e w' => e = .returned (.float .f64 (W true INF)) ∧ w' = w := by
  go_enter Tryz.func141, Tryz.ntmps141
  go_wp2
  go_ret
  exact ⟨rfl, rfl⟩
theorem copysign_any (s t : Bool) (r q : Nat) (hr : r < 9223372036854775808) (hq : q < 9223372036854775808) (w : World) :
    Calls Tryz.prog 177 #[.float .f64 (W s r), .float .f64 (W t q)] w fun e w' => e = .returned (.float .f64 (W t r)) ∧ w' = w := by
  have h1 := abs_bits s r hr
  have h1' : bits .andNot .u64 (W s r : Int) 9223372036854775808 = (r : Int) := by
    have := u64_andNot_nat (W s r) 9223372036854775808 (W_lt s r hr) (by decide)
    rw [show ((9223372036854775808 : Nat) : Int) = 9223372036854775808 from rfl] at this
    rw [this] at h1 ⊢
    rw [Int.toNat_natCast] at h1
    rw [h1]
  clear h1
  have h2 := sign_bits t q hq
  have h3 := or_sign t r hr
  go_enter Tryz.func177, Tryz.ntmps177
  go_wp2
  go_ret
  exact ⟨ret_float (by simp), rfl⟩
end Go.Proofs.YtacnclofbnafiabGreatDoor

namespace Go.Proofs.YtacnclofbnafiabGreatDoor
open Go.RowKit Fl

theorem order_lt_small (r : Nat) (hr : r < INF) : (Ieee.double.order (W false r) 4503599627370496 == some .lt) = decide (r < 4503599627370496) := by
  have h := order_lt_pos r 4503599627370496 hr (by rw [INF_eq]; omega)
  rwa [W_false 4503599627370496] at h

theorem normalize_big (s : Bool) (r : Nat) (hr : r < INF) (hb : 4503599627370496 ≤ r) (w : World) :
    Calls Tryz.prog 181 #[.float .f64 (W s r)] w fun e w' => e = .returned (.tuple #[.float .f64 (W s r), .int .i64 0]) ∧ w' = w := by
  have hr' : r < 9223372036854775808 := by rw [INF_eq] at hr; omega
  have h := order_lt_small r hr
  rw [decide_eq_false (by omega)] at h
  go_enter Tryz.func181, Tryz.ntmps181
  go_wp2_with (go_at_call 44; refine (abs_any _ _ hr' _).mono ?_; rintro e w' ⟨rfl, rfl⟩)
  go_ret2
  exact ⟨rfl, rfl⟩
theorem normalize_small (s : Bool) (r : Nat) (h0 : 0 < r) (hb : r < 4503599627370496) (w : World) :
    Calls Tryz.prog 181 #[.float .f64 (W s r)] w fun e w' => e = .returned (.tuple #[.float .f64 (W s (big r)), .int .i64 (-52)]) ∧ w' = w := by
  have hr' : r < 9223372036854775808 := by omega
  have h := order_lt_small r (by rw [INF_eq]; omega)
  rw [decide_eq_true hb] at h
  have hm := fun t w => run_float_arith (P := Tryz.prog) w .mul t .f64 (W s r) 4841369599423283200 _ (mul_big s r h0 hb)
  clear hb h0
  go_enter Tryz.func181, Tryz.ntmps181
  go_wp2_with (go_at_call 44; refine (abs_any _ _ hr' _).mono ?_; rintro e w' ⟨rfl, rfl⟩)
  go_ret2
  exact ⟨rfl, rfl⟩
theorem order_ne_zero (s : Bool) (r : Nat) (h0 : 0 < r) (h : r < 9223372036854775808) : (Ieee.double.order (W s r) 0 == some .eq) = false := by
  rw [order_zero s r h]; simp; omega
theorem exp_field (s : Bool) (r E : Nat) (hr : r < 9223372036854775808) (hE : r / 4503599627370496 = E) : bits .and .u64 ((W s r : Int) / 4503599627370496) 2047 = (E : Int) := by
  have h := u64_and_nat (W s r / 4503599627370496) 2047 (by have := W_lt s r hr; omega) (by omega)
  rw [show (2047 : Nat) = 2 ^ 11 - 1 by decide, Nat.and_two_pow_sub_one_eq_mod, show (2 ^ 11 : Nat) = 2048 by decide, field_eq s r hr, hE] at h
  simpa using h
theorem ret_fi {a b : Nat} {i j : Int} (h : a = b) (g : i = j) : Ending.returned (.tuple #[.float .f64 a, .int .i64 i]) = .returned (.tuple #[.float .f64 b, .int .i64 j]) := by rw [h, g]
theorem frexp_big (s : Bool) (r E f : Nat) (hr : r < INF) (hb : 4503599627370496 ≤ r) (hE : r / 4503599627370496 = E) (hf : r % 4503599627370496 = f) (w : World) :
    Calls Tryz.prog 184 #[.float .f64 (W s r)] w fun e w' => e = .returned (.tuple #[.float .f64 (W s (4602678819172646912 + f)), .int .i64 (E - 1022)]) ∧ w' = w := by
  have hr' : r < 9223372036854775808 := by rw [INF_eq] at hr; omega
  have hE1 : E ≤ 2046 := by rw [INF_eq] at hr; omega
  have h1 := order_ne_zero s r (by omega) hr'
  have h2 : decide (r = INF) = false := by simp; omega
  have hc := clear_bits s r hr'
  have hs : bits .or .u64 (W s f : Int) 4602678819172646912 = (W s (4602678819172646912 + f) : Nat) :=
    set_bits s 1022 f (by omega) (by omega)
  have hfld := exp_field s r E hr' hE
  rw [hf] at hc
  clear hE hf
  go_enter Tryz.func184, Tryz.ntmps184
  go_wp2_with (first
    | (go_at_call 60; refine (isInf0 _ _ hr' _).mono ?_; rintro e w' ⟨rfl, rfl⟩)
    | (go_at_call 159; refine (isNaN_no _ _ (Nat.le_of_lt hr) _).mono ?_; rintro e w' ⟨rfl, rfl⟩)
    | (go_at_call 181; refine (normalize_big _ _ hr hb _).mono ?_; rintro e w' ⟨rfl, rfl⟩))
  go_ret2
  exact ⟨ret_fi rfl (by omega), rfl⟩
theorem frexp_small (s : Bool) (r q E f : Nat) (h0 : 0 < r) (hr : r < 4503599627370496) (hq : big r = q) (hE : q / 4503599627370496 = E) (hf : q % 4503599627370496 = f) (w : World) :
    Calls Tryz.prog 184 #[.float .f64 (W s r)] w fun e w' => e = .returned (.tuple #[.float .f64 (W s (4602678819172646912 + f)), .int .i64 (-52 + (E - 1022))]) ∧ w' = w := by
  have hq1 : q < 9223372036854775808 := by have := (big_spec r h0 hr).2.1; rw [INF_eq] at this; omega
  have hE1 : E ≤ 2046 := by have := (big_spec r h0 hr).2.1; rw [INF_eq] at this; omega
  have hi : r < INF := by rw [INF_eq]; omega
  have hr' : r < 9223372036854775808 := by omega
  have h1 := order_ne_zero s r h0 hr'
  have h2 : decide (r = INF) = false := by simp; omega
  have hc := clear_bits s q hq1
  have hs : bits .or .u64 (W s f : Int) 4602678819172646912 = (W s (4602678819172646912 + f) : Nat) :=
    set_bits s 1022 f (by omega) (by omega)
  have hfld := exp_field s q E hq1 hE
  rw [hf] at hc
  clear hE hf
  go_enter Tryz.func184, Tryz.ntmps184
  go_wp2_with (first
    | (go_at_call 60; refine (isInf0 _ _ hr' _).mono ?_; rintro e w' ⟨rfl, rfl⟩)
    | (go_at_call 159; refine (isNaN_no _ _ (Nat.le_of_lt hi) _).mono ?_; rintro e w' ⟨rfl, rfl⟩)
    | (go_at_call 181; refine (normalize_small _ _ h0 hr _).mono ?_; rintro e w' ⟨rfl, rfl⟩))
  go_ret2
  exact ⟨ret_fi rfl (by omega), rfl⟩
theorem Frexp_any (s : Bool) (r : Nat) (h0 : 0 < r) (hr : r < INF) (w : World) :
    Calls Tryz.prog 178 #[.float .f64 (W s r)] w fun e w' => e = .returned (.tuple #[.float .f64 (W s (4598175219545276416 + mant r)), .int .i64 (fe r)]) ∧ w' = w := by
  have key : ∀ w : World, Calls Tryz.prog 184 #[.float .f64 (W s r)] w fun e w' => e = .returned (.tuple #[.float .f64 (W s (4598175219545276416 + mant r)), .int .i64 (fe r)]) ∧ w' = w := by
    intro w
    by_cases hb : r < 4503599627370496
    · have e1 : nr r = big r := by unfold nr; rw [if_pos hb]
      have e2 : eo r = -52 := by unfold eo; rw [if_pos hb]
      refine (frexp_small s r _ _ _ h0 hb rfl rfl rfl w).mono ?_
      rintro e w' ⟨rfl, rfl⟩
      refine ⟨ret_fi ?_ ?_, rfl⟩
      · unfold mant; rw [e1]; congr 1; omega
      · unfold fe; rw [e1, e2]; omega
    · have e1 : nr r = r := by unfold nr; rw [if_neg hb]
      have e2 : eo r = 0 := by unfold eo; rw [if_neg hb]
      refine (frexp_big s r _ _ hr (by omega) rfl rfl w).mono ?_
      rintro e w' ⟨rfl, rfl⟩
      refine ⟨ret_fi ?_ ?_, rfl⟩
      · unfold mant; rw [e1]; congr 1; omega
      · unfold fe; rw [e1, e2]; omega
  go_enter Tryz.func178, Tryz.ntmps178
  go_wp2_with (go_at_call 184; refine (key _).mono ?_; rintro e w' ⟨rfl, rfl⟩)
  go_ret2
  exact ⟨rfl, rfl⟩
theorem normalize_any (s : Bool) (r : Nat) (h0 : 0 < r) (hr : r < INF) (w : World) :
    Calls Tryz.prog 181 #[.float .f64 (W s r)] w fun e w' => e = .returned (.tuple #[.float .f64 (W s (nr r)), .int .i64 (eo r)]) ∧ w' = w := by
  by_cases hb : r < 4503599627370496
  · have e1 : nr r = big r := by unfold nr; rw [if_pos hb]
    have e2 : eo r = -52 := by unfold eo; rw [if_pos hb]
    rw [e1, e2]; exact normalize_small s r h0 hb w
  · have e1 : nr r = r := by unfold nr; rw [if_neg hb]
    have e2 : eo r = 0 := by unfold eo; rw [if_neg hb]
    rw [e1, e2]; exact normalize_big s r hr (by omega) w
end Go.Proofs.YtacnclofbnafiabGreatDoor

namespace Go.Proofs.YtacnclofbnafiabGreatDoor
open Go.RowKit Fl

theorem shl52 (x : Int) (yk : IntKind) : Op.shift .shl .u64 x yk 52 = pure (.int .u64 (sh52 x)) := by
  rw [shift_shl .u64 yk x 52 (by decide) (by decide), IntKind.wrap_u64]; rfl
attribute [local go_sem ↓] shl52
theorem wraps_i64 (n : Int) (h₀ : 0 ≤ n) (h₁ : n < 2 ^ 63) : IntKind.i64.wrap n = n := by rw [IntKind.wrap_i64]; omega
theorem exp_fieldI (s : Bool) (q : Nat) (hq : q < 9223372036854775808) : bits .and .i64 (wrap64 ((W s q : Int) / 4503599627370496)) 2047 = (fld q : Int) := by
  have h := W_lt s q hq
  have hw : wrap64 ((W s q : Int) / 4503599627370496) = (W s q : Int) / 4503599627370496 := by
    unfold wrap64; omega
  rw [hw]
  have := bits_mask .i64 63 (by decide) wraps_i64 11 (by decide) ((W s q : Int) / 4503599627370496) (by omega) (by omega)
  have e : ((2 : Int) ^ 11) = 2048 := by decide
  rw [e] at this
  rw [show (2048 - 1 : Int) = 2047 by decide] at this
  rw [this]
  have := field_eq s q hq
  unfold fld
  omega
attribute [local go_sem] exp_fieldI
theorem order_lt_zero (s : Bool) (q : Nat) (h0 : 0 < q) (h : q < INF) : (Ieee.double.order (W s q) 0 == some .lt) = s := by
  have e := order_fin s false q 0 h (by decide)
  rw [W_zero] at e
  rw [e, V_zero]
  cases s
  · have := V_pos h0
    rw [Int.compare_eq_gt.2 (by omega)]; rfl
  · have := V_neg h0
    rw [Int.compare_eq_lt.2 (by omega)]; rfl
/-- What a walk of ldexp wants to know. -/
structure LdIn (s : Bool) (r q f : Nat) (n o : Int) : Prop where
  h0 : 0 < r
  hr : r < INF
  hq : nr r = q
  ho : eo r = o
  hf : q % 4503599627370496 = f
  hn1 : -5000 ≤ n
  hn2 : n ≤ 5000

theorem ldexp_A (s : Bool) (r q f : Nat) (n o : Int) (H : LdIn s r q f n o) (hx : n + o + (fld q - 1023) < -1075) (w : World) :
    Calls Tryz.prog 174 #[.float .f64 (W s r), .int .i64 n] w fun e w' => e = .returned (.float .f64 (W s 0)) ∧ w' = w := by
  obtain ⟨h0, hr, hq, ho, hf, hn1, hn2⟩ := H
  obtain ⟨q1, q2⟩ := nr_spec r h0 hr
  rw [hq] at q1 q2
  have hr' : r < 9223372036854775808 := by rw [INF_eq] at hr; omega
  have hq' : q < 9223372036854775808 := by rw [INF_eq] at q2; omega
  have hE1 : fld q ≤ 2046 := by rw [INF_eq] at q2; unfold fld; omega
  have ho1 : -52 ≤ o := by rw [← ho]; unfold eo; split <;> omega
  have ho2 : o ≤ 0 := by rw [← ho]; unfold eo; split <;> omega
  have h1 := order_ne_zero s r h0 hr'
  have h2 : decide (r = INF) = false := by simp; omega
  clear hf
  go_enter Tryz.func174, Tryz.ntmps174
  go_wp2_with (first
    | (go_at_call 60; refine (isInf0 _ _ hr' _).mono ?_; rintro e w' ⟨rfl, rfl⟩)
    | (go_at_call 159; refine (isNaN_no _ _ (Nat.le_of_lt hr) _).mono ?_; rintro e w' ⟨rfl, rfl⟩)
    | (go_at_call 177; refine (copysign_any false _ 0 _ (by omega) hq' _).mono ?_; rintro e w' ⟨rfl, rfl⟩)
    | (go_at_call 181; refine (normalize_any _ _ h0 hr _).mono ?_; rintro e w' ⟨rfl, rfl⟩))
  go_ret
  exact ⟨rfl, rfl⟩
theorem ldexp_B (s : Bool) (r q f : Nat) (n o : Int) (H : LdIn s r q f n o) (hx : 1023 < n + o + (fld q - 1023)) (w : World) :
    Calls Tryz.prog 174 #[.float .f64 (W s r), .int .i64 n] w fun e w' => e = .returned (.float .f64 (W s INF)) ∧ w' = w := by
  obtain ⟨h0, hr, hq, ho, hf, hn1, hn2⟩ := H
  obtain ⟨q1, q2⟩ := nr_spec r h0 hr
  rw [hq] at q1 q2
  have hr' : r < 9223372036854775808 := by rw [INF_eq] at hr; omega
  have hq' : q < 9223372036854775808 := by rw [INF_eq] at q2; omega
  have hE1 : fld q ≤ 2046 := by rw [INF_eq] at q2; unfold fld; omega
  have ho1 : -52 ≤ o := by rw [← ho]; unfold eo; split <;> omega
  have ho2 : o ≤ 0 := by rw [← ho]; unfold eo; split <;> omega
  have h1 := order_ne_zero s r h0 hr'
  have h2 : decide (r = INF) = false := by simp; omega
  have h3 := order_lt_zero s q (by omega) q2
  clear hf
  cases s
  · go_enter Tryz.func174, Tryz.ntmps174
    go_wp2_with (first
      | (go_at_call 60; refine (isInf0 _ _ hr' _).mono ?_; rintro e w' ⟨rfl, rfl⟩)
      | (go_at_call 159; refine (isNaN_no _ _ (Nat.le_of_lt hr) _).mono ?_; rintro e w' ⟨rfl, rfl⟩)
      | (go_at_call 141; refine (inf_pos _).mono ?_; rintro e w' ⟨rfl, rfl⟩)
      | (go_at_call 181; refine (normalize_any _ _ h0 hr _).mono ?_; rintro e w' ⟨rfl, rfl⟩))
    go_ret
    exact ⟨rfl, rfl⟩
  · go_enter Tryz.func174, Tryz.ntmps174
    go_wp2_with (first
      | (go_at_call 60; refine (isInf0 _ _ hr' _).mono ?_; rintro e w' ⟨rfl, rfl⟩)
      | (go_at_call 159; refine (isNaN_no _ _ (Nat.le_of_lt hr) _).mono ?_; rintro e w' ⟨rfl, rfl⟩)
      | (go_at_call 141; refine (inf_neg _).mono ?_; rintro e w' ⟨rfl, rfl⟩)
      | (go_at_call 181; refine (normalize_any _ _ h0 hr _).mono ?_; rintro e w' ⟨rfl, rfl⟩))
    go_ret
    exact ⟨rfl, rfl⟩
theorem ldexp_C (s : Bool) (r q f : Nat) (n o : Int) (H : LdIn s r q f n o) (hx1 : -1022 ≤ n + o + (fld q - 1023)) (hx2 : n + o + (fld q - 1023) ≤ 1023) (w : World) :
    Calls Tryz.prog 174 #[.float .f64 (W s r), .int .i64 n] w fun e w' => e = .returned (.float .f64 (W s (stE (n + o + (fld q - 1023) + 1023) f))) ∧ w' = w := by
  obtain ⟨h0, hr, hq, ho, hf, hn1, hn2⟩ := H
  obtain ⟨q1, q2⟩ := nr_spec r h0 hr
  have hst := (stE_C r (n + o + (fld q - 1023) + 1023) (by omega) (by omega)).1
  rw [hq, hf] at hst
  rw [hq] at q1 q2
  have hr' : r < 9223372036854775808 := by rw [INF_eq] at hr; omega
  have hq' : q < 9223372036854775808 := by rw [INF_eq] at q2; omega
  have hE1 : fld q ≤ 2046 := by rw [INF_eq] at q2; unfold fld; omega
  have ho1 : -52 ≤ o := by rw [← ho]; unfold eo; split <;> omega
  have ho2 : o ≤ 0 := by rw [← ho]; unfold eo; split <;> omega
  have h1 := order_ne_zero s r h0 hr'
  have h2 : decide (r = INF) = false := by simp; omega
  have hc := clear_bits s q hq'
  rw [hf] at hc
  have hf1 : f < 4503599627370496 := by omega
  clear hf
  have hs := or52 s f (n + o + (fld q - 1023) + 1023) hf1 (by omega) (by omega)
  have hm := fun t w => run_float_arith (P := Tryz.prog) w .mul t .f64 4607182418800017408 _ _ (mul_one' s _ hst)
  go_enter Tryz.func174, Tryz.ntmps174
  go_wp2_with (first
    | (go_at_call 60; refine (isInf0 _ _ hr' _).mono ?_; rintro e w' ⟨rfl, rfl⟩)
    | (go_at_call 159; refine (isNaN_no _ _ (Nat.le_of_lt hr) _).mono ?_; rintro e w' ⟨rfl, rfl⟩)
    | (go_at_call 181; refine (normalize_any _ _ h0 hr _).mono ?_; rintro e w' ⟨rfl, rfl⟩))
  go_ret
  exact ⟨rfl, rfl⟩
theorem ldexp_D (s : Bool) (r q f z : Nat) (n o : Int) (H : LdIn s r q f n o) (hx1 : -1075 ≤ n + o + (fld q - 1023)) (hx2 : n + o + (fld q - 1023) < -1022)
    (hz : Ieee.double.mul 4368491638549381120 (W s (stE (n + o + (fld q - 1023) + 53 + 1023) f)) = some (W s z)) (w : World) :
    Calls Tryz.prog 174 #[.float .f64 (W s r), .int .i64 n] w fun e w' => e = .returned (.float .f64 (W s z)) ∧ w' = w := by
  obtain ⟨h0, hr, hq, ho, hf, hn1, hn2⟩ := H
  obtain ⟨q1, q2⟩ := nr_spec r h0 hr
  rw [hq] at q1 q2
  have hr' : r < 9223372036854775808 := by rw [INF_eq] at hr; omega
  have hq' : q < 9223372036854775808 := by rw [INF_eq] at q2; omega
  have hE1 : fld q ≤ 2046 := by rw [INF_eq] at q2; unfold fld; omega
  have ho1 : -52 ≤ o := by rw [← ho]; unfold eo; split <;> omega
  have ho2 : o ≤ 0 := by rw [← ho]; unfold eo; split <;> omega
  have h1 := order_ne_zero s r h0 hr'
  have h2 : decide (r = INF) = false := by simp; omega
  have hc := clear_bits s q hq'
  rw [hf] at hc
  have hf1 : f < 4503599627370496 := by omega
  clear hf
  have hs := or52 s f (n + o + (fld q - 1023) + 53 + 1023) hf1 (by omega) (by omega)
  have hm := fun t w => run_float_arith (P := Tryz.prog) w .mul t .f64 4368491638549381120 _ _ hz
  clear hz
  go_enter Tryz.func174, Tryz.ntmps174
  go_wp2_with (first
    | (go_at_call 60; refine (isInf0 _ _ hr' _).mono ?_; rintro e w' ⟨rfl, rfl⟩)
    | (go_at_call 159; refine (isNaN_no _ _ (Nat.le_of_lt hr) _).mono ?_; rintro e w' ⟨rfl, rfl⟩)
    | (go_at_call 181; refine (normalize_any _ _ h0 hr _).mono ?_; rintro e w' ⟨rfl, rfl⟩))
  go_ret
  exact ⟨rfl, rfl⟩
/-- LDEXP OF A NUMBER OTHER THAN 0: a neighbour of what is exact. -/
theorem ldexp_any (s : Bool) (r : Nat) (n : Int) (h0 : 0 < r) (hr : r < INF) (hn1 : -5000 ≤ n) (hn2 : n ≤ 5000) :
    ∃ z, LdOk r n z ∧ ∀ w, Calls Tryz.prog 174 #[.float .f64 (W s r), .int .i64 n] w fun e w' => e = .returned (.float .f64 (W s z)) ∧ w' = w := by
  have H : LdIn s r (nr r) (nr r % 4503599627370496) n (eo r) := ⟨h0, hr, rfl, rfl, rfl, hn1, hn2⟩
  by_cases hA : lx r n < -1075
  · exact ⟨0, Ld_A r n h0 hA, ldexp_A s r _ _ n _ H hA⟩
  by_cases hB : 1023 < lx r n
  · exact ⟨INF, Ld_B r n h0 hB, ldexp_B s r _ _ n _ H hB⟩
  by_cases hC : -1022 ≤ lx r n
  · exact ⟨_, Ld_C r n h0 hC (by omega), ldexp_C s r _ _ n _ H hC (Int.not_lt.1 hB)⟩
  · obtain ⟨z, hz, hf⟩ := mul_half53 s (stE (lx r n + 53 + 1023) (nr r % 4503599627370496)) (stE_C r _ (by omega) (by omega)).1
    exact ⟨z, Ld_D r n z h0 (by omega) (by omega) hf, ldexp_D s r _ _ z n _ H (Int.not_lt.1 hA) (Int.not_le.1 hC) hz⟩
theorem Ldexp_any (s : Bool) (r : Nat) (n : Int) (h0 : 0 < r) (hr : r < INF) (hn1 : -5000 ≤ n) (hn2 : n ≤ 5000) :
    ∃ z, LdOk r n z ∧ ∀ w, Calls Tryz.prog 168 #[.float .f64 (W s r), .int .i64 n] w fun e w' => e = .returned (.float .f64 (W s z)) ∧ w' = w := by
  obtain ⟨z, hz, hc⟩ := ldexp_any s r n h0 hr hn1 hn2
  refine ⟨z, hz, fun w => ?_⟩
  clear hz
  go_enter Tryz.func168, Tryz.ntmps168
  go_wp2_with (go_at_call 174; refine (hc _).mono ?_; rintro e w' ⟨rfl, rfl⟩)
  go_ret
  exact ⟨rfl, rfl⟩
theorem Ldexp_zero (s : Bool) (n : Int) (w : World) :
    Calls Tryz.prog 168 #[.float .f64 (W s 0), .int .i64 n] w fun e w' => e = .returned (.float .f64 (W s 0)) ∧ w' = w := by
  have h1 := order_zero s 0 (by decide)
  go_enter Tryz.func168, Tryz.ntmps168
  go_wp2
  go_ret
  exact ⟨rfl, rfl⟩
theorem Ldexp_inf' (s : Bool) (r : Nat) (n : Int) (h0 : 0 < r) (hr : r < 9223372036854775808) (h2 : decide (r = INF) = true) (w : World) :
    Calls Tryz.prog 168 #[.float .f64 (W s r), .int .i64 n] w fun e w' => e = .returned (.float .f64 (W s r)) ∧ w' = w := by
  have h1 := order_ne_zero s r h0 hr
  go_enter Tryz.func168, Tryz.ntmps168
  go_wp2_with (first
    | (go_at_call 60; refine (isInf0 _ _ hr _).mono ?_; rintro e w' ⟨rfl, rfl⟩)
    | go_in)
  go_ret
  exact ⟨rfl, rfl⟩
theorem Ldexp_inf (s : Bool) (n : Int) (w : World) :
    Calls Tryz.prog 168 #[.float .f64 (W s INF), .int .i64 n] w fun e w' => e = .returned (.float .f64 (W s INF)) ∧ w' = w :=
  Ldexp_inf' s INF n INF_pos INF_lt (by simp) w
end Go.Proofs.YtacnclofbnafiabGreatDoor

namespace Go.Proofs.YtacnclofbnafiabGreatDoor
open Go.RowKit Fl

theorem isNaN_of (x : Nat) (h : Ieee.double.order x x = some .eq) (w : World) :
    Calls Tryz.prog 159 #[.float .f64 x] w fun e w' => e = .returned (.bool false) ∧ w' = w := by
  go_enter Tryz.func159, Tryz.ntmps159
  go_wp2
  go_ret
  exact ⟨rfl, rfl⟩
theorem next_zero (x y : Nat) (t : Bool) (q : Nat) (hq : q < 9223372036854775808) (hW : y = W t q) (hx : Ieee.double.order x x = some .eq) (hy : Ieee.double.order y y = some .eq) (hxy : (Ieee.double.order x y == some .eq) = false)
    (hx0 : Ieee.double.order x 0 = some .eq) (w : World) :
    Calls Tryz.prog 170 #[.float .f64 x, .float .f64 y] w fun e w' => e = .returned (.float .f64 (W t 1)) ∧ w' = w := by
  have hcs : ∀ w, Calls Tryz.prog 177 #[.float .f64 1, .float .f64 y] w fun e w' => e = .returned (.float .f64 (W t 1)) ∧ w' = w := by
    intro w; rw [hW]; exact copysign_any false t 1 q (by omega) hq w
  clear hW hq
  go_enter Tryz.func170, Tryz.ntmps170
  go_wp2_with (first
    | (go_at_call 159; with_reducible refine (isNaN_of _ hx _).mono ?_; rintro e w' ⟨rfl, rfl⟩)
    | (go_at_call 159; with_reducible refine (isNaN_of _ hy _).mono ?_; rintro e w' ⟨rfl, rfl⟩)
    | (go_at_call 177; refine (hcs _).mono ?_; rintro e w' ⟨rfl, rfl⟩))
  go_ret
  exact ⟨rfl, rfl⟩
/-- One more, one less, of a uint64. -/
def inc (x : Nat) : Nat := (IntKind.u64.wrap ((x : Int) + 1)).toNat
def dec (x : Nat) : Nat := (IntKind.u64.wrap ((x : Int) - 1)).toNat
theorem next_plus (x y : Nat) (o1 o2 : Ordering) (hx : Ieee.double.order x x = some .eq) (hy : Ieee.double.order y y = some .eq) (hxy : (Ieee.double.order x y == some .eq) = false)
    (hyx : Ieee.double.order y x = some o1) (hx0 : Ieee.double.order x 0 = some o2) (H : (o1 = .gt ∧ o2 = .gt) ∨ (o1 = .lt ∧ o2 = .lt)) (w : World) :
    Calls Tryz.prog 170 #[.float .f64 x, .float .f64 y] w fun e w' => e = .returned (.float .f64 (inc x)) ∧ w' = w := by
  rcases H with ⟨rfl, rfl⟩ | ⟨rfl, rfl⟩
  all_goals
    go_enter Tryz.func170, Tryz.ntmps170
    go_wp2_with (first
      | (go_at_call 159; with_reducible refine (isNaN_of _ hx _).mono ?_; rintro e w' ⟨rfl, rfl⟩)
      | (go_at_call 159; with_reducible refine (isNaN_of _ hy _).mono ?_; rintro e w' ⟨rfl, rfl⟩))
    go_ret
    exact ⟨rfl, rfl⟩
theorem next_minus (x y : Nat) (o1 o2 : Ordering) (hx : Ieee.double.order x x = some .eq) (hy : Ieee.double.order y y = some .eq) (hxy : (Ieee.double.order x y == some .eq) = false)
    (hyx : Ieee.double.order y x = some o1) (hx0 : Ieee.double.order x 0 = some o2) (H : (o1 = .gt ∧ o2 = .lt) ∨ (o1 = .lt ∧ o2 = .gt)) (w : World) :
    Calls Tryz.prog 170 #[.float .f64 x, .float .f64 y] w fun e w' => e = .returned (.float .f64 (dec x)) ∧ w' = w := by
  rcases H with ⟨rfl, rfl⟩ | ⟨rfl, rfl⟩
  all_goals
    go_enter Tryz.func170, Tryz.ntmps170
    go_wp2_with (first
      | (go_at_call 159; with_reducible refine (isNaN_of _ hx _).mono ?_; rintro e w' ⟨rfl, rfl⟩)
      | (go_at_call 159; with_reducible refine (isNaN_of _ hy _).mono ?_; rintro e w' ⟨rfl, rfl⟩))
    go_ret
    exact ⟨rfl, rfl⟩
def cmpI : Ordering → Int | .lt => -1 | .eq => 0 | .gt => 1
theorem cisNaN_of (x : Nat) (h : Ieee.double.order x x = some .eq) (w : World) :
    Calls Tryz.prog 182 #[.float .f64 x] w fun e w' => e = .returned (.bool false) ∧ w' = w := by
  go_enter Tryz.func182, Tryz.ntmps182
  go_wp2
  go_ret
  exact ⟨rfl, rfl⟩
theorem compare_any (x y : Nat) (o : Ordering) (hx : Ieee.double.order x x = some .eq) (hy : Ieee.double.order y y = some .eq) (hxy : Ieee.double.order x y = some o) (w : World) :
    Calls Tryz.prog 175 #[.float .f64 x, .float .f64 y] w fun e w' => e = .returned (.int .i64 (cmpI o)) ∧ w' = w := by
  cases o
  all_goals
    go_enter Tryz.func175, Tryz.ntmps175
    go_wp2_with (first
      | (go_at_call 182; with_reducible refine (cisNaN_of _ hx _).mono ?_; rintro e w' ⟨rfl, rfl⟩)
      | (go_at_call 182; with_reducible refine (cisNaN_of _ hy _).mono ?_; rintro e w' ⟨rfl, rfl⟩))
    go_ret
    exact ⟨rfl, rfl⟩
/-- Without -0. -/
def pw (s : Bool) (r : Nat) : Nat := if r = 0 then 0 else W s r
theorem plain_any (s : Bool) (r : Nat) (hr : r < 9223372036854775808) (w : World) :
    Calls Tryz.prog 136 #[.float .f64 (W s r)] w fun e w' => e = .returned (.float .f64 (pw s r)) ∧ w' = w := by
  have h := order_zero s r hr
  by_cases h0 : r = 0
  · have e : pw s r = 0 := by unfold pw; rw [if_pos h0]
    rw [decide_eq_true h0] at h
    rw [e]
    clear h0 e
    go_enter Tryz.func136, Tryz.ntmps136
    go_wp2
    go_ret
    exact ⟨rfl, rfl⟩
  · have e : pw s r = W s r := by unfold pw; rw [if_neg h0]
    rw [decide_eq_false h0] at h
    rw [e]
    clear h0 e
    go_enter Tryz.func136, Tryz.ntmps136
    go_wp2
    go_ret
    exact ⟨rfl, rfl⟩
theorem fma_run (x y z r : Nat) (h : Ieee.double.fma x y z = some r) (w : World) : (callFunc 179 #[.float .f64 x, .float .f64 y, .float .f64 z]).run Tryz.prog w = .ok (.value (.float .f64 r)) w := by
  rw [run_callFunc_extern Tryz.func179 (by kernel_rfl) (by kernel_rfl) (by kernel_rfl) (e := Extern.MathFMA.fma) (by kernel_rfl)]
  have h' : FloatKind.f64.format.fma x y z = some r := h
  have e : Extern.MathFMA.fma #[.float .f64 x, .float .f64 y, .float .f64 z] = (match FloatKind.f64.format.fma x y z with
      | some r => pure (.float .f64 r)
      | none => (choose (.nanBits .f64 (if Extern.MathFMA.isNaN x then (x, y) else if Extern.MathFMA.isNaN y then (y, z) else (z, z)).1 (if Extern.MathFMA.isNaN x then (x, y) else if Extern.MathFMA.isNaN y then (y, z) else (z, z)).2)) >>= fun c => pure (.float .f64 c)) := rfl
  rw [e, h']
  rfl
theorem sqrt_run (x r : Nat) (h : Ieee.double.sqrt x = some r) (w : World) : (callFunc 186 #[.float .f64 x]).run Tryz.prog w = .ok (.value (.float .f64 r)) w := by
  rw [run_callFunc_extern Tryz.func186 (by kernel_rfl) (by kernel_rfl) (by kernel_rfl) (e := Extern.MathSqrt.sqrt) (by kernel_rfl)]
  have h' : FloatKind.f64.format.sqrt x = some r := h
  have e : Extern.MathSqrt.sqrt #[.float .f64 x] = (match FloatKind.f64.format.sqrt x with
      | some r => pure (.float .f64 r)
      | none => choose (.nanBits .f64 x x) >>= fun c => pure (.float .f64 c)) := rfl
  rw [e, h']
  rfl
theorem Sqrt_any (x r : Nat) (h : Ieee.double.sqrt x = some r) (w : World) :
    Calls Tryz.prog 185 #[.float .f64 x] w fun e w' => e = .returned (.float .f64 r) ∧ w' = w := by
  have hs := sqrt_run x r h
  clear h
  go_enter Tryz.func185, Tryz.ntmps185
  go_wp2
  go_ret
  exact ⟨rfl, rfl⟩
end Go.Proofs.YtacnclofbnafiabGreatDoor
