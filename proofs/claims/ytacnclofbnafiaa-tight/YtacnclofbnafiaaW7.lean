import Derived.Test.YtacnclofbnafiaaW6
import Derived.Test.YtacnclofbnafiaaFA
namespace Go.Proofs.Ytacnclofbnafiaa
open Go.RowKit Fl

theorem isNaN_gen (s : Bool) (r : Nat) (hr : r < 9223372036854775808) (w : World) :
    Calls Try.prog 92 #[.float .f64 (W s r)] w fun e w' => e = .returned (.bool (decide (INF < r))) ∧ w' = w := by
  by_cases h : INF < r
  · rw [decide_eq_true h]; exact isNaN_yes s r h hr w
  · rw [decide_eq_false h]; exact isNaN_no s r (by omega) w
theorem all_any (w : World) :
    Calls Try.prog 129 #[] w fun e w' => e = .returned (.tuple #[.float .f64 (W true INF), .float .f64 (W false INF)]) ∧ w' = w := by
  go_enter Try.func129, Try.ntmps129
  go_wp2_with fail
  go_at_call 31
  refine (inf_neg _).mono ?_
  rintro e w' ⟨rfl, rfl⟩
  go_wp2_with fail
  go_at_call 31
  refine (inf_pos _).mono ?_
  rintro e w' ⟨rfl, rfl⟩
  go_wp2_with fail
  go_ret2
  exact ⟨rfl, rfl⟩

/-- What Mul answers. -/
structure MulSpec (s : Bool) (r : Nat) (t : Bool) (q D P : Nat) : Prop where
  nan : INF < r ∨ INF < q → D = W true INF ∧ P = W false INF
  zero : r ≤ INF → q ≤ INF → r = 0 ∨ q = 0 → D = 0 ∧ P = 0
  inf : 0 < r → 0 < q → r ≤ INF → q ≤ INF → r = INF ∨ q = INF → D = W (s ^^ t) INF ∧ P = W (s ^^ t) INF
  num : 0 < r → 0 < q → r < INF → q < INF → ∃ lo hi, LoHi (Rt (M r * M q) U) lo hi ∧ D = dnW (s ^^ t) lo hi ∧ P = upW (s ^^ t) lo hi

/-- The first tests of Mul. -/
theorem Mul_nan (s t : Bool) (r q : Nat) (hr : r < 9223372036854775808) (hq : q < 9223372036854775808) (h : INF < r ∨ INF < q) (w : World) :
    Calls Try.prog 84 #[.float .f64 (W s r), .float .f64 (W t q)] w
      fun e w' => e = .returned (.tuple #[.float .f64 (W true INF), .float .f64 (W false INF)]) ∧ w' = w := by
  by_cases h1 : INF < r
  · have g1 := decide_eq_true h1
    clear h h1
    go_enter Try.func84, Try.ntmps84
    go_wp2_with (first
      | (go_at_call 92; refine (isNaN_gen _ _ hr _).mono ?_; rintro e w' ⟨rfl, rfl⟩)
      | (go_at_call 129; refine (all_any _).mono ?_; rintro e w' ⟨rfl, rfl⟩))
    go_ret2
    exact ⟨rfl, rfl⟩
  · have h2 : INF < q := by omega
    have g1 := decide_eq_false h1
    have g2 := decide_eq_true h2
    clear h h1 h2
    go_enter Try.func84, Try.ntmps84
    go_wp2_with (first
      | (go_at_call 92; refine (isNaN_gen _ _ (by assumption) _).mono ?_; rintro e w' ⟨rfl, rfl⟩)
      | (go_at_call 129; refine (all_any _).mono ?_; rintro e w' ⟨rfl, rfl⟩))
    go_ret2
    exact ⟨rfl, rfl⟩
theorem Mul_zero (s t : Bool) (r q : Nat) (hr : r ≤ INF) (hq : q ≤ INF) (h : r = 0 ∨ q = 0) (w : World) :
    Calls Try.prog 84 #[.float .f64 (W s r), .float .f64 (W t q)] w
      fun e w' => e = .returned (.tuple #[.float .f64 0, .float .f64 0]) ∧ w' = w := by
  have hr' := fin_lt hr
  have hq' := fin_lt hq
  have g1 := decide_eq_false (Nat.not_lt.2 hr)
  have g2 := decide_eq_false (Nat.not_lt.2 hq)
  have z1 := order_zero s r hr'
  have z2 := order_zero t q hq'
  by_cases h1 : r = 0
  · rw [decide_eq_true h1] at z1
    clear h h1 z2
    go_enter Try.func84, Try.ntmps84
    go_wp2_with (go_at_call 92; refine (isNaN_gen _ _ (by assumption) _).mono ?_; rintro e w' ⟨rfl, rfl⟩)
    go_ret2
    exact ⟨rfl, rfl⟩
  · have h2 : q = 0 := by omega
    rw [decide_eq_false h1] at z1
    rw [decide_eq_true h2] at z2
    clear h h1 h2
    go_enter Try.func84, Try.ntmps84
    go_wp2_with (go_at_call 92; refine (isNaN_gen _ _ (by assumption) _).mono ?_; rintro e w' ⟨rfl, rfl⟩)
    go_ret2
    exact ⟨rfl, rfl⟩
theorem Mul_inf (s t : Bool) (r q : Nat) (hr0 : 0 < r) (hq0 : 0 < q) (hr : r ≤ INF) (hq : q ≤ INF) (h : r = INF ∨ q = INF) (w : World) :
    Calls Try.prog 84 #[.float .f64 (W s r), .float .f64 (W t q)] w
      fun e w' => e = .returned (.tuple #[.float .f64 (W (s ^^ t) INF), .float .f64 (W (s ^^ t) INF)]) ∧ w' = w := by
  have hr' := fin_lt hr
  have hq' := fin_lt hq
  have g1 := decide_eq_false (Nat.not_lt.2 hr)
  have g2 := decide_eq_false (Nat.not_lt.2 hq)
  have z1 := order_ne_zero s r hr0 hr'
  have z2 := order_ne_zero t q hq0 hq'
  have hm : Ieee.double.mul (W s r) (W t q) = some (W (s ^^ t) INF) := by
    rcases h with h | h
    · rw [h]; exact mul_inf_l s t q hq0 hq
    · rw [h]; exact mul_inf_r t s r hr0 hr
  have hmul := fun t' w => run_float_arith (P := Try.prog) w .mul t' .f64 _ _ _ hm
  clear hm
  generalize W (s ^^ t) INF = A at *
  by_cases h1 : r = INF
  · have i1 := decide_eq_true h1
    clear h h1
    go_enter Try.func84, Try.ntmps84
    go_wp2_with (first
      | (go_at_call 92; refine (isNaN_gen _ _ (by assumption) _).mono ?_; rintro e w' ⟨rfl, rfl⟩)
      | (go_at_call 29; refine (isInf0 _ _ (by assumption) _).mono ?_; rintro e w' ⟨rfl, rfl⟩))
    go_ret2
    exact ⟨rfl, rfl⟩
  · have h2 : q = INF := by omega
    have i1 := decide_eq_false h1
    have i2 := decide_eq_true h2
    clear h h1 h2
    go_enter Try.func84, Try.ntmps84
    go_wp2_with (first
      | (go_at_call 92; refine (isNaN_gen _ _ (by assumption) _).mono ?_; rintro e w' ⟨rfl, rfl⟩)
      | (go_at_call 29; refine (isInf0 _ _ (by assumption) _).mono ?_; rintro e w' ⟨rfl, rfl⟩))
    go_ret2
    exact ⟨rfl, rfl⟩
theorem Mul_num (s t : Bool) (r q L T D P : Nat) (n : Int) (hr0 : 0 < r) (hq0 : 0 < q) (hr : r < INF) (hq : q < INF)
    (hp : ∀ w, Calls Try.prog 132 #[.float .f64 (W s r), .float .f64 (W t q)] w
      fun e w' => e = .returned (.agg #[.float .f64 L, .float .f64 T, .int .i64 n]) ∧ Below w.heap.size w w')
    (hb : ∀ w, Calls Try.prog 131 #[.agg #[.float .f64 L, .float .f64 T, .int .i64 n]] w
      fun e w' => e = .returned (.tuple #[.float .f64 D, .float .f64 P]) ∧ Below w.heap.size w w') (w : World) :
    Calls Try.prog 84 #[.float .f64 (W s r), .float .f64 (W t q)] w
      fun e w' => e = .returned (.tuple #[.float .f64 D, .float .f64 P]) ∧ Below w.heap.size w w' := by
  have hr' := fin_lt (Nat.le_of_lt hr)
  have hq' := fin_lt (Nat.le_of_lt hq)
  have g1 : decide (INF < r) = false := decide_eq_false (by omega)
  have g2 : decide (INF < q) = false := decide_eq_false (by omega)
  have z1 := order_ne_zero s r hr0 hr'
  have z2 := order_ne_zero t q hq0 hq'
  have i1 : decide (r = INF) = false := decide_eq_false (by omega)
  have i2 : decide (q = INF) = false := decide_eq_false (by omega)
  go_enter Try.func84, Try.ntmps84
  go_wp2_with (first
    | (go_at_call 92; refine (isNaN_gen _ _ (by assumption) _).mono ?_; rintro e w' ⟨rfl, rfl⟩)
    | (go_at_call 29; refine (isInf0 _ _ (by assumption) _).mono ?_; rintro e w' ⟨rfl, rfl⟩)
    | (go_at_call 132; refine (hp _).mono ?_; rintro e w1 ⟨rfl, hb1⟩)
    | (go_at_call 131; refine (hb _).mono ?_; rintro e w2 ⟨rfl, hb2⟩))
  go_ret2
  exact ⟨rfl, hb1.trans (hb2.mono hb1.size)⟩
theorem Mul_any (s t : Bool) (r q : Nat) (hr : r < 9223372036854775808) (hq : q < 9223372036854775808) :
    ∃ D P, MulSpec s r t q D P ∧ ∀ w, Calls Try.prog 84 #[.float .f64 (W s r), .float .f64 (W t q)] w
      fun e w' => e = .returned (.tuple #[.float .f64 D, .float .f64 P]) ∧ Below w.heap.size w w' := by
  by_cases h1 : INF < r ∨ INF < q
  · exact ⟨_, _, ⟨fun _ => ⟨rfl, rfl⟩, fun _ _ => by omega, fun _ _ => by omega, fun _ _ => by omega⟩, fun w => (Mul_nan s t r q hr hq h1 w).mono fun e w' ⟨he, hw⟩ => ⟨he, hw ▸ Below.refl _ _⟩⟩
  by_cases h2 : r = 0 ∨ q = 0
  · exact ⟨_, _, ⟨fun _ => by omega, fun _ _ _ => ⟨rfl, rfl⟩, fun _ _ => by omega, fun _ _ => by omega⟩, fun w => (Mul_zero s t r q (by omega) (by omega) h2 w).mono fun e w' ⟨he, hw⟩ => ⟨he, hw ▸ Below.refl _ _⟩⟩
  by_cases h3 : r = INF ∨ q = INF
  · exact ⟨_, _, ⟨fun _ => by omega, fun _ _ => by omega, fun _ _ _ _ _ => ⟨rfl, rfl⟩, fun _ _ => by omega⟩, fun w => (Mul_inf s t r q (by omega) (by omega) (by omega) (by omega) h3 w).mono fun e w' ⟨he, hw⟩ => ⟨he, hw ▸ Below.refl _ _⟩⟩
  have hr0 : 0 < r := by omega
  have hq0 : 0 < q := by omega
  have hrI : r < INF := by omega
  have hqI : q < INF := by omega
  obtain ⟨l, hm, hl⟩ := mul_fin s t (frR r) (frR q) (frR_lt r) (frR_lt q)
  obtain ⟨H, _⟩ := prod_scaled r q l hr0 hq0 hl
  have hlI : l < INF := by have := H.top; omega
  obtain ⟨sg, z, hf, hF, hS⟩ := fma_fin s t (!(s ^^ t)) (frR r) (frR q) l (frR_lt r) (frR_lt q) hlI
  obtain ⟨e1, e2⟩ := prod_tail s t r q l _ rfl
  obtain ⟨u1, u2⟩ := unit_pos hF e2
  have o1 := order_self sg z hF.1
  have o2 := tail_order sg z _ hF.1 u1 u2 hS
  obtain ⟨b1, b2⟩ := fe_bd r hr0 hrI
  obtain ⟨b3, b4⟩ := fe_bd q hq0 hqI
  obtain ⟨lo, hi, hLH, hB⟩ := bounds_scaled (s ^^ t) l (W sg z) (fe r + fe q) _ _ _ H (by omega) (by omega) o1 o2
    (cmp_pos e1) (cmp_neg e1) (cmp_zero e1)
  exact ⟨_, _, ⟨fun _ => by omega, fun _ _ => by omega, fun _ _ => by omega, fun _ _ _ _ => ⟨lo, hi, hLH, rfl, rfl⟩⟩,
    Mul_num s t r q _ _ _ _ _ hr0 hq0 hrI hqI (productOf_walk s t r q l _ hr0 hrI hq0 hqI (Nat.le_of_lt hlI) hm hf) hB⟩
end Go.Proofs.Ytacnclofbnafiaa
