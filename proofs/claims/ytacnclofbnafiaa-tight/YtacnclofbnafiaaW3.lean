import Derived.Test.YtacnclofbnafiaaW2
import Derived.Test.YtacnclofbnafiaaFA
namespace Go.Proofs.Ytacnclofbnafiaa
open Go.RowKit Fl

theorem shl52 (x : Int) (yk : IntKind) : Op.shift .shl .u64 x yk 52 = pure (.int .u64 (sh52 x)) := by
  rw [shift_shl .u64 yk x 52 (by decide) (by decide), IntKind.wrap_u64]; rfl
attribute [local go_sem ↓] shl52
theorem wraps_i64 (n : Int) (h₀ : 0 ≤ n) (h₁ : n < 2 ^ 63) : IntKind.i64.wrap n = n := by rw [IntKind.wrap_i64]; omega
theorem exp_fieldI (s : Bool) (q : Nat) (hq : q < 9223372036854775808) : bits .and .i64 (wrap64 ((W s q : Int) / 4503599627370496)) 2047 = (fld q : Int) := by
  have h := W_lt s q hq
  have hw : wrap64 ((W s q : Int) / 4503599627370496) = (W s q : Int) / 4503599627370496 := by
    unfold wrap64; omega
  rw [hw]
  have := bits_mask .i64 63 (by decide) wraps_i64 11 (by decide) ((W s q : Int) / 4503599627370496) (by omega) (by omega)
  have e : ((2 : Int) ^ 11) = 2048 := by decide
  rw [e] at this
  rw [show (2048 - 1 : Int) = 2047 by decide] at this
  rw [this]
  have := field_eq s q hq
  unfold fld
  omega
attribute [local go_sem] exp_fieldI
theorem order_lt_zero (s : Bool) (q : Nat) (h0 : 0 < q) (h : q < INF) : (Ieee.double.order (W s q) 0 == some .lt) = s := by
  have e := order_fin s false q 0 h (by decide)
  rw [W_zero] at e
  rw [e, V_zero]
  cases s
  · have := V_pos h0
    rw [Int.compare_eq_gt.2 (by omega)]; rfl
  · have := V_neg h0
    rw [Int.compare_eq_lt.2 (by omega)]; rfl
/-- What a walk of ldexp wants to know. -/
structure LdIn (s : Bool) (r q f : Nat) (n o : Int) : Prop where
  h0 : 0 < r
  hr : r < INF
  hq : nr r = q
  ho : eo r = o
  hf : q % 4503599627370496 = f
  hn1 : -5000 ≤ n
  hn2 : n ≤ 5000

theorem ldexp_A (s : Bool) (r q f : Nat) (n o : Int) (H : LdIn s r q f n o) (hx : n + o + (fld q - 1023) < -1075) (w : World) :
    Calls Try.prog 126 #[.float .f64 (W s r), .int .i64 n] w fun e w' => e = .returned (.float .f64 (W s 0)) ∧ w' = w := by
  obtain ⟨h0, hr, hq, ho, hf, hn1, hn2⟩ := H
  obtain ⟨q1, q2⟩ := nr_spec r h0 hr
  rw [hq] at q1 q2
  have hr' : r < 9223372036854775808 := by rw [INF_eq] at hr; omega
  have hq' : q < 9223372036854775808 := by rw [INF_eq] at q2; omega
  have hE1 : fld q ≤ 2046 := by rw [INF_eq] at q2; unfold fld; omega
  have ho1 : -52 ≤ o := by rw [← ho]; unfold eo; split <;> omega
  have ho2 : o ≤ 0 := by rw [← ho]; unfold eo; split <;> omega
  have h1 := order_ne_zero s r h0 hr'
  have h2 : decide (r = INF) = false := by simp; omega
  clear hf
  go_enter Try.func126, Try.ntmps126
  go_wp2_with (first
    | (go_at_call 29; refine (isInf0 _ _ hr' _).mono ?_; rintro e w' ⟨rfl, rfl⟩)
    | (go_at_call 92; refine (isNaN_no _ _ (Nat.le_of_lt hr) _).mono ?_; rintro e w' ⟨rfl, rfl⟩)
    | (go_at_call 94; refine (copysign_any false _ 0 _ (by omega) hq' _).mono ?_; rintro e w' ⟨rfl, rfl⟩)
    | (go_at_call 162; refine (normalize_any _ _ h0 hr _).mono ?_; rintro e w' ⟨rfl, rfl⟩))
  go_ret
  exact ⟨rfl, rfl⟩
theorem ldexp_B (s : Bool) (r q f : Nat) (n o : Int) (H : LdIn s r q f n o) (hx : 1023 < n + o + (fld q - 1023)) (w : World) :
    Calls Try.prog 126 #[.float .f64 (W s r), .int .i64 n] w fun e w' => e = .returned (.float .f64 (W s INF)) ∧ w' = w := by
  obtain ⟨h0, hr, hq, ho, hf, hn1, hn2⟩ := H
  obtain ⟨q1, q2⟩ := nr_spec r h0 hr
  rw [hq] at q1 q2
  have hr' : r < 9223372036854775808 := by rw [INF_eq] at hr; omega
  have hq' : q < 9223372036854775808 := by rw [INF_eq] at q2; omega
  have hE1 : fld q ≤ 2046 := by rw [INF_eq] at q2; unfold fld; omega
  have ho1 : -52 ≤ o := by rw [← ho]; unfold eo; split <;> omega
  have ho2 : o ≤ 0 := by rw [← ho]; unfold eo; split <;> omega
  have h1 := order_ne_zero s r h0 hr'
  have h2 : decide (r = INF) = false := by simp; omega
  have h3 := order_lt_zero s q (by omega) q2
  clear hf
  cases s
  · go_enter Try.func126, Try.ntmps126
    go_wp2_with (first
      | (go_at_call 29; refine (isInf0 _ _ hr' _).mono ?_; rintro e w' ⟨rfl, rfl⟩)
      | (go_at_call 92; refine (isNaN_no _ _ (Nat.le_of_lt hr) _).mono ?_; rintro e w' ⟨rfl, rfl⟩)
      | (go_at_call 31; refine (inf_pos _).mono ?_; rintro e w' ⟨rfl, rfl⟩)
      | (go_at_call 162; refine (normalize_any _ _ h0 hr _).mono ?_; rintro e w' ⟨rfl, rfl⟩))
    go_ret
    exact ⟨rfl, rfl⟩
  · go_enter Try.func126, Try.ntmps126
    go_wp2_with (first
      | (go_at_call 29; refine (isInf0 _ _ hr' _).mono ?_; rintro e w' ⟨rfl, rfl⟩)
      | (go_at_call 92; refine (isNaN_no _ _ (Nat.le_of_lt hr) _).mono ?_; rintro e w' ⟨rfl, rfl⟩)
      | (go_at_call 31; refine (inf_neg _).mono ?_; rintro e w' ⟨rfl, rfl⟩)
      | (go_at_call 162; refine (normalize_any _ _ h0 hr _).mono ?_; rintro e w' ⟨rfl, rfl⟩))
    go_ret
    exact ⟨rfl, rfl⟩
theorem ldexp_C (s : Bool) (r q f : Nat) (n o : Int) (H : LdIn s r q f n o) (hx1 : -1022 ≤ n + o + (fld q - 1023)) (hx2 : n + o + (fld q - 1023) ≤ 1023) (w : World) :
    Calls Try.prog 126 #[.float .f64 (W s r), .int .i64 n] w fun e w' => e = .returned (.float .f64 (W s (stE (n + o + (fld q - 1023) + 1023) f))) ∧ w' = w := by
  obtain ⟨h0, hr, hq, ho, hf, hn1, hn2⟩ := H
  obtain ⟨q1, q2⟩ := nr_spec r h0 hr
  have hst := (stE_C r (n + o + (fld q - 1023) + 1023) (by omega) (by omega)).1
  rw [hq, hf] at hst
  rw [hq] at q1 q2
  have hr' : r < 9223372036854775808 := by rw [INF_eq] at hr; omega
  have hq' : q < 9223372036854775808 := by rw [INF_eq] at q2; omega
  have hE1 : fld q ≤ 2046 := by rw [INF_eq] at q2; unfold fld; omega
  have ho1 : -52 ≤ o := by rw [← ho]; unfold eo; split <;> omega
  have ho2 : o ≤ 0 := by rw [← ho]; unfold eo; split <;> omega
  have h1 := order_ne_zero s r h0 hr'
  have h2 : decide (r = INF) = false := by simp; omega
  have hc := clear_bits s q hq'
  rw [hf] at hc
  have hf1 : f < 4503599627370496 := by omega
  clear hf
  have hs := or52 s f (n + o + (fld q - 1023) + 1023) hf1 (by omega) (by omega)
  have hm := fun t w => run_float_arith (P := Try.prog) w .mul t .f64 4607182418800017408 _ _ (mul_one' s _ hst)
  go_enter Try.func126, Try.ntmps126
  go_wp2_with (first
    | (go_at_call 29; refine (isInf0 _ _ hr' _).mono ?_; rintro e w' ⟨rfl, rfl⟩)
    | (go_at_call 92; refine (isNaN_no _ _ (Nat.le_of_lt hr) _).mono ?_; rintro e w' ⟨rfl, rfl⟩)
    | (go_at_call 162; refine (normalize_any _ _ h0 hr _).mono ?_; rintro e w' ⟨rfl, rfl⟩))
  go_ret
  exact ⟨rfl, rfl⟩
theorem ldexp_D (s : Bool) (r q f z : Nat) (n o : Int) (H : LdIn s r q f n o) (hx1 : -1075 ≤ n + o + (fld q - 1023)) (hx2 : n + o + (fld q - 1023) < -1022)
    (hz : Ieee.double.mul 4368491638549381120 (W s (stE (n + o + (fld q - 1023) + 53 + 1023) f)) = some (W s z)) (w : World) :
    Calls Try.prog 126 #[.float .f64 (W s r), .int .i64 n] w fun e w' => e = .returned (.float .f64 (W s z)) ∧ w' = w := by
  obtain ⟨h0, hr, hq, ho, hf, hn1, hn2⟩ := H
  obtain ⟨q1, q2⟩ := nr_spec r h0 hr
  rw [hq] at q1 q2
  have hr' : r < 9223372036854775808 := by rw [INF_eq] at hr; omega
  have hq' : q < 9223372036854775808 := by rw [INF_eq] at q2; omega
  have hE1 : fld q ≤ 2046 := by rw [INF_eq] at q2; unfold fld; omega
  have ho1 : -52 ≤ o := by rw [← ho]; unfold eo; split <;> omega
  have ho2 : o ≤ 0 := by rw [← ho]; unfold eo; split <;> omega
  have h1 := order_ne_zero s r h0 hr'
  have h2 : decide (r = INF) = false := by simp; omega
  have hc := clear_bits s q hq'
  rw [hf] at hc
  have hf1 : f < 4503599627370496 := by omega
  clear hf
  have hs := or52 s f (n + o + (fld q - 1023) + 53 + 1023) hf1 (by omega) (by omega)
  have hm := fun t w => run_float_arith (P := Try.prog) w .mul t .f64 4368491638549381120 _ _ hz
  clear hz
  go_enter Try.func126, Try.ntmps126
  go_wp2_with (first
    | (go_at_call 29; refine (isInf0 _ _ hr' _).mono ?_; rintro e w' ⟨rfl, rfl⟩)
    | (go_at_call 92; refine (isNaN_no _ _ (Nat.le_of_lt hr) _).mono ?_; rintro e w' ⟨rfl, rfl⟩)
    | (go_at_call 162; refine (normalize_any _ _ h0 hr _).mono ?_; rintro e w' ⟨rfl, rfl⟩))
  go_ret
  exact ⟨rfl, rfl⟩
/-- LDEXP OF A NUMBER OTHER THAN 0: a neighbour of what is exact. -/
theorem ldexp_any (s : Bool) (r : Nat) (n : Int) (h0 : 0 < r) (hr : r < INF) (hn1 : -5000 ≤ n) (hn2 : n ≤ 5000) :
    ∃ z, LdOk r n z ∧ ∀ w, Calls Try.prog 126 #[.float .f64 (W s r), .int .i64 n] w fun e w' => e = .returned (.float .f64 (W s z)) ∧ w' = w := by
  have H : LdIn s r (nr r) (nr r % 4503599627370496) n (eo r) := ⟨h0, hr, rfl, rfl, rfl, hn1, hn2⟩
  by_cases hA : lx r n < -1075
  · exact ⟨0, Ld_A r n h0 hA, ldexp_A s r _ _ n _ H hA⟩
  by_cases hB : 1023 < lx r n
  · exact ⟨INF, Ld_B r n h0 hB, ldexp_B s r _ _ n _ H hB⟩
  by_cases hC : -1022 ≤ lx r n
  · exact ⟨_, Ld_C r n h0 hC (by omega), ldexp_C s r _ _ n _ H hC (Int.not_lt.1 hB)⟩
  · obtain ⟨z, hz, hf⟩ := mul_half53 s (stE (lx r n + 53 + 1023) (nr r % 4503599627370496)) (stE_C r _ (by omega) (by omega)).1
    exact ⟨z, Ld_D r n z h0 (by omega) (by omega) hf, ldexp_D s r _ _ z n _ H (Int.not_lt.1 hA) (Int.not_le.1 hC) hz⟩
theorem Ldexp_any (s : Bool) (r : Nat) (n : Int) (h0 : 0 < r) (hr : r < INF) (hn1 : -5000 ≤ n) (hn2 : n ≤ 5000) :
    ∃ z, LdOk r n z ∧ ∀ w, Calls Try.prog 79 #[.float .f64 (W s r), .int .i64 n] w fun e w' => e = .returned (.float .f64 (W s z)) ∧ w' = w := by
  obtain ⟨z, hz, hc⟩ := ldexp_any s r n h0 hr hn1 hn2
  refine ⟨z, hz, fun w => ?_⟩
  clear hz
  go_enter Try.func79, Try.ntmps79
  go_wp2_with (go_at_call 126; refine (hc _).mono ?_; rintro e w' ⟨rfl, rfl⟩)
  go_ret
  exact ⟨rfl, rfl⟩
theorem Ldexp_zero (s : Bool) (n : Int) (w : World) :
    Calls Try.prog 79 #[.float .f64 (W s 0), .int .i64 n] w fun e w' => e = .returned (.float .f64 (W s 0)) ∧ w' = w := by
  have h1 := order_zero s 0 (by decide)
  go_enter Try.func79, Try.ntmps79
  go_wp2
  go_ret
  exact ⟨rfl, rfl⟩
theorem Ldexp_inf' (s : Bool) (r : Nat) (n : Int) (h0 : 0 < r) (hr : r < 9223372036854775808) (h2 : decide (r = INF) = true) (w : World) :
    Calls Try.prog 79 #[.float .f64 (W s r), .int .i64 n] w fun e w' => e = .returned (.float .f64 (W s r)) ∧ w' = w := by
  have h1 := order_ne_zero s r h0 hr
  go_enter Try.func79, Try.ntmps79
  go_wp2_with (first
    | (go_at_call 29; refine (isInf0 _ _ hr _).mono ?_; rintro e w' ⟨rfl, rfl⟩)
    | go_in)
  go_ret
  exact ⟨rfl, rfl⟩
theorem Ldexp_inf (s : Bool) (n : Int) (w : World) :
    Calls Try.prog 79 #[.float .f64 (W s INF), .int .i64 n] w fun e w' => e = .returned (.float .f64 (W s INF)) ∧ w' = w :=
  Ldexp_inf' s INF n INF_pos INF_lt (by simp) w
end Go.Proofs.Ytacnclofbnafiaa
