import Derived.Test.YtacnclofbnafiaaW7
namespace Go.Proofs.Ytacnclofbnafiaa
open Go.RowKit Fl

/-- What Div answers. -/
structure DivSpec (s : Bool) (r : Nat) (t : Bool) (q D P : Nat) : Prop where
  all : INF < r ∨ INF < q ∨ q = 0 ∨ (r = INF ∧ q = INF) → D = W true INF ∧ P = W false INF
  inf_r : r < INF → q = INF → D = 0 ∧ P = 0
  inf_l : r = INF → 0 < q → q < INF → D = W (s ^^ t) INF ∧ P = W (s ^^ t) INF
  num : 0 < q → r < INF → q < INF → ∃ lo hi, LoHi (Rt (M r * U) (M q)) lo hi ∧ D = dnW (s ^^ t) lo hi ∧ P = upW (s ^^ t) lo hi

theorem Div_nan (s t : Bool) (r q : Nat) (hr : r < 9223372036854775808) (hq : q < 9223372036854775808) (h : INF < r ∨ INF < q ∨ q = 0) (w : World) :
    Calls Try.prog 85 #[.float .f64 (W s r), .float .f64 (W t q)] w
      fun e w' => e = .returned (.tuple #[.float .f64 (W true INF), .float .f64 (W false INF)]) ∧ w' = w := by
  have z2 := order_zero t q hq
  by_cases h1 : INF < r
  · have g1 := decide_eq_true h1
    clear h h1 z2
    go_enter Try.func85, Try.ntmps85
    go_wp2_with (first
      | (go_at_call 92; refine (isNaN_gen _ _ (by assumption) _).mono ?_; rintro e w' ⟨rfl, rfl⟩)
      | (go_at_call 129; refine (all_any _).mono ?_; rintro e w' ⟨rfl, rfl⟩))
    go_ret2
    exact ⟨rfl, rfl⟩
  · by_cases h2 : INF < q
    · have g1 := decide_eq_false h1
      have g2 := decide_eq_true h2
      clear h h1 h2 z2
      go_enter Try.func85, Try.ntmps85
      go_wp2_with (first
        | (go_at_call 92; refine (isNaN_gen _ _ (by assumption) _).mono ?_; rintro e w' ⟨rfl, rfl⟩)
        | (go_at_call 129; refine (all_any _).mono ?_; rintro e w' ⟨rfl, rfl⟩))
      go_ret2
      exact ⟨rfl, rfl⟩
    · have h3 : q = 0 := by omega
      have g1 := decide_eq_false h1
      have g2 := decide_eq_false h2
      rw [decide_eq_true h3] at z2
      clear h h1 h2 h3
      go_enter Try.func85, Try.ntmps85
      go_wp2_with (first
        | (go_at_call 92; refine (isNaN_gen _ _ (by assumption) _).mono ?_; rintro e w' ⟨rfl, rfl⟩)
        | (go_at_call 129; refine (all_any _).mono ?_; rintro e w' ⟨rfl, rfl⟩))
      go_ret2
      exact ⟨rfl, rfl⟩
theorem Div_infs (s t : Bool) (r q : Nat) (hr : r = INF) (hq : q = INF) (w : World) :
    Calls Try.prog 85 #[.float .f64 (W s r), .float .f64 (W t q)] w
      fun e w' => e = .returned (.tuple #[.float .f64 (W true INF), .float .f64 (W false INF)]) ∧ w' = w := by
  have hr' := fin_lt (Nat.le_of_eq hr)
  have hq' := fin_lt (Nat.le_of_eq hq)
  have hq0 : 0 < q := by have := INF_pos; omega
  have g1 : decide (INF < r) = false := decide_eq_false (by omega)
  have g2 : decide (INF < q) = false := decide_eq_false (by omega)
  have i1 : decide (r = INF) = true := decide_eq_true hr
  have i2 : decide (q = INF) = true := decide_eq_true hq
  have z2 := order_ne_zero t q hq0 hq'
  clear hr hq
  go_enter Try.func85, Try.ntmps85
  go_wp2_with (first
    | (go_at_call 92; refine (isNaN_gen _ _ (by assumption) _).mono ?_; rintro e w' ⟨rfl, rfl⟩)
    | (go_at_call 29; refine (isInf0 _ _ (by assumption) _).mono ?_; rintro e w' ⟨rfl, rfl⟩)
    | (go_at_call 129; refine (all_any _).mono ?_; rintro e w' ⟨rfl, rfl⟩))
  go_ret2
  exact ⟨rfl, rfl⟩
theorem Div_infr (s t : Bool) (r q : Nat) (hr : r < INF) (hq : q = INF) (w : World) :
    Calls Try.prog 85 #[.float .f64 (W s r), .float .f64 (W t q)] w
      fun e w' => e = .returned (.tuple #[.float .f64 0, .float .f64 0]) ∧ w' = w := by
  have hr' := fin_lt (Nat.le_of_lt hr)
  have hq' := fin_lt (Nat.le_of_eq hq)
  have hq0 : 0 < q := by have := INF_pos; omega
  have g1 : decide (INF < r) = false := decide_eq_false (by omega)
  have g2 : decide (INF < q) = false := decide_eq_false (by omega)
  have i1 : decide (r = INF) = false := decide_eq_false (by omega)
  have i2 : decide (q = INF) = true := decide_eq_true hq
  have z2 := order_ne_zero t q hq0 hq'
  clear hr hq
  go_enter Try.func85, Try.ntmps85
  go_wp2_with (first
    | (go_at_call 92; refine (isNaN_gen _ _ (by assumption) _).mono ?_; rintro e w' ⟨rfl, rfl⟩)
    | (go_at_call 29; refine (isInf0 _ _ (by assumption) _).mono ?_; rintro e w' ⟨rfl, rfl⟩))
  go_ret2
  exact ⟨rfl, rfl⟩
theorem Div_infl (s t : Bool) (r q : Nat) (hr : r = INF) (hq0 : 0 < q) (hq : q < INF) (w : World) :
    Calls Try.prog 85 #[.float .f64 (W s r), .float .f64 (W t q)] w
      fun e w' => e = .returned (.tuple #[.float .f64 (W (s ^^ t) INF), .float .f64 (W (s ^^ t) INF)]) ∧ w' = w := by
  have hr' := fin_lt (Nat.le_of_eq hr)
  have hq' := fin_lt (Nat.le_of_lt hq)
  have g1 : decide (INF < r) = false := decide_eq_false (by omega)
  have g2 : decide (INF < q) = false := decide_eq_false (by omega)
  have i1 : decide (r = INF) = true := decide_eq_true hr
  have i2 : decide (q = INF) = false := decide_eq_false (by omega)
  have z2 := order_ne_zero t q hq0 hq'
  have hm : Ieee.double.div (W s r) (W t q) = some (W (s ^^ t) INF) := by rw [hr]; exact div_inf_l s t q hq
  have hdiv := fun t' w => run_float_arith (P := Try.prog) w .quo t' .f64 _ _ _ hm
  clear hr hq hm
  generalize W (s ^^ t) INF = A at *
  go_enter Try.func85, Try.ntmps85
  go_wp2_with (first
    | (go_at_call 92; refine (isNaN_gen _ _ (by assumption) _).mono ?_; rintro e w' ⟨rfl, rfl⟩)
    | (go_at_call 29; refine (isInf0 _ _ (by assumption) _).mono ?_; rintro e w' ⟨rfl, rfl⟩))
  go_ret2
  exact ⟨rfl, rfl⟩
theorem Div_num (s t : Bool) (r q L T D P : Nat) (n : Int) (hq0 : 0 < q) (hr : r < INF) (hq : q < INF)
    (hp : ∀ w, Calls Try.prog 133 #[.float .f64 (W s r), .float .f64 (W t q)] w
      fun e w' => e = .returned (.agg #[.float .f64 L, .float .f64 T, .int .i64 n]) ∧ Below w.heap.size w w')
    (hb : ∀ w, Calls Try.prog 131 #[.agg #[.float .f64 L, .float .f64 T, .int .i64 n]] w
      fun e w' => e = .returned (.tuple #[.float .f64 D, .float .f64 P]) ∧ Below w.heap.size w w') (w : World) :
    Calls Try.prog 85 #[.float .f64 (W s r), .float .f64 (W t q)] w
      fun e w' => e = .returned (.tuple #[.float .f64 D, .float .f64 P]) ∧ Below w.heap.size w w' := by
  have hr' := fin_lt (Nat.le_of_lt hr)
  have hq' := fin_lt (Nat.le_of_lt hq)
  have g1 : decide (INF < r) = false := decide_eq_false (by omega)
  have g2 : decide (INF < q) = false := decide_eq_false (by omega)
  have z2 := order_ne_zero t q hq0 hq'
  have i1 : decide (r = INF) = false := decide_eq_false (by omega)
  have i2 : decide (q = INF) = false := decide_eq_false (by omega)
  clear hr hq
  go_enter Try.func85, Try.ntmps85
  go_wp2_with (first
    | (go_at_call 92; refine (isNaN_gen _ _ (by assumption) _).mono ?_; rintro e w' ⟨rfl, rfl⟩)
    | (go_at_call 29; refine (isInf0 _ _ (by assumption) _).mono ?_; rintro e w' ⟨rfl, rfl⟩)
    | (go_at_call 133; refine (hp _).mono ?_; rintro e w1 ⟨rfl, hb1⟩)
    | (go_at_call 131; refine (hb _).mono ?_; rintro e w2 ⟨rfl, hb2⟩))
  go_ret2
  exact ⟨rfl, hb1.trans (hb2.mono hb1.size)⟩
theorem order_00 : Ieee.double.order 0 0 = some .eq := by have := order_self false 0 (Nat.zero_le _); rwa [W_zero] at this
/-- BOUNDS of 0. -/
theorem bounds_zero (s u : Bool) (n : Int) (C : Nat → Int) (hn1 : -5000 ≤ n) (hn2 : n ≤ 5000) (hC : Anti C) (h0 : C 0 = 0) :
    ∃ lo hi, LoHi C lo hi ∧ ∀ w, Calls Try.prog 131 #[.agg #[.float .f64 (W s 0), .float .f64 (W u 0), .int .i64 n]] w
      fun e w' => e = .returned (.tuple #[.float .f64 (dnW s lo hi), .float .f64 (upW s lo hi)]) ∧ Below w.heap.size w w' := by
  have o1 := order_self s 0 (Nat.zero_le _)
  have hsd := side_eq (W s 0) (W u 0) (W s 0) (W s 0) n .eq hn1 hn2 (Ldexp_zero s (-n)) o1 o1 o1 (order_self u 0 (Nat.zero_le _)) (order_zero_zero u) order_00
  have hF : Faith C 0 := by
    refine ⟨Nat.zero_le _, fun k _ => ⟨fun h => ?_, fun _ => Nat.zero_le _⟩⟩
    rcases Nat.eq_zero_or_pos k with e | e
    · omega
    · have := hC.neg (M_pos e) (by omega : C 0 ≤ 0); omega
  refine bounds_near s (W s 0) (W u 0) 0 n _ C (Ldexp_zero s n) hsd hF (by omega) 0 (by cases s <;> rfl) (fun h => by have := INF_pos; omega) (fun _ h => by omega) (fun _ h => by omega) (fun _ _ => by rw [M_zero]; exact h0)
theorem Div_any (s t : Bool) (r q : Nat) (hr : r < 9223372036854775808) (hq : q < 9223372036854775808) :
    ∃ D P, DivSpec s r t q D P ∧ ∀ w, Calls Try.prog 85 #[.float .f64 (W s r), .float .f64 (W t q)] w
      fun e w' => e = .returned (.tuple #[.float .f64 D, .float .f64 P]) ∧ Below w.heap.size w w' := by
  have hIp := INF_pos
  by_cases h1 : INF < r ∨ INF < q ∨ q = 0
  · exact ⟨_, _, ⟨fun _ => ⟨rfl, rfl⟩, fun _ _ => by omega, fun _ _ _ => by omega, fun _ _ _ => by omega⟩, fun w => (Div_nan s t r q hr hq h1 w).mono fun e w' ⟨he, hw⟩ => ⟨he, hw ▸ Below.refl _ _⟩⟩
  by_cases h2 : r = INF ∧ q = INF
  · exact ⟨_, _, ⟨fun _ => ⟨rfl, rfl⟩, fun _ _ => by omega, fun _ _ _ => by omega, fun _ _ _ => by omega⟩, fun w => (Div_infs s t r q h2.1 h2.2 w).mono fun e w' ⟨he, hw⟩ => ⟨he, hw ▸ Below.refl _ _⟩⟩
  by_cases h3 : q = INF
  · exact ⟨_, _, ⟨fun _ => by omega, fun _ _ => ⟨rfl, rfl⟩, fun _ _ _ => by omega, fun _ _ _ => by omega⟩, fun w => (Div_infr s t r q (by omega) h3 w).mono fun e w' ⟨he, hw⟩ => ⟨he, hw ▸ Below.refl _ _⟩⟩
  by_cases h4 : r = INF
  · exact ⟨_, _, ⟨fun _ => by omega, fun _ _ => by omega, fun _ _ _ => ⟨rfl, rfl⟩, fun _ _ _ => by omega⟩, fun w => (Div_infl s t r q h4 (by omega) (by omega) w).mono fun e w' ⟨he, hw⟩ => ⟨he, hw ▸ Below.refl _ _⟩⟩
  have hq0 : 0 < q := by omega
  have hrI : r < INF := by omega
  have hqI : q < INF := by omega
  obtain ⟨b3, b4⟩ := fe_bd q hq0 hqI
  rcases Nat.eq_zero_or_pos r with hr0 | hr0
  · subst hr0
    obtain ⟨l, hm, hl⟩ := div_fin s t 0 (frR q) hIp (frR_lt q) (frR_pos q)
    have hl0 : l = 0 := hl.exact (Nat.zero_le _) (by unfold Rt; rw [M_zero]; simp)
    subst hl0
    obtain ⟨u, z, hf, hF, hS⟩ := fma_fin (!(s ^^ t)) t s 0 (frR q) 0 hIp (frR_lt q) hIp
    have hz0 : z = 0 := by
      rw [V_zero, V_zero, Int.zero_mul, Int.zero_mul] at hF
      exact hF.exact (Nat.zero_le _) (by unfold Rt; rw [M_zero]; simp)
    subst hz0
    obtain ⟨y, hd, hy⟩ := div_fin u t 0 (frR q) hIp (frR_lt q) (frR_pos q)
    have hy0 : y = 0 := hy.exact (Nat.zero_le _) (by unfold Rt; rw [M_zero]; simp)
    subst hy0
    obtain ⟨lo, hi, hLH, hB⟩ := bounds_zero (s ^^ t) (u ^^ t) (-fe q) (Rt (M 0 * U) (M q)) (by omega) (by omega) (Rt_anti _ _ (M_pos hq0)) (by unfold Rt; rw [M_zero]; simp)
    exact ⟨_, _, ⟨fun _ => by omega, fun _ _ => by omega, fun _ _ _ => by omega, fun _ _ _ => ⟨lo, hi, hLH, rfl, rfl⟩⟩,
      Div_num s t 0 q _ _ _ _ _ hq0 hrI hqI (quotientOf_zero s t u (u ^^ t) q hq0 hqI hm hf hd) hB⟩
  obtain ⟨b1, b2⟩ := fe_bd r hr0 hrI
  obtain ⟨l, hm, hl⟩ := div_fin s t (frR r) (frR q) (frR_lt r) (frR_lt q) (frR_pos q)
  obtain ⟨H, hbig, hle⟩ := quo_scaled r q l hr0 hq0 hl
  have hlI : l < INF := by have := H.top; omega
  obtain ⟨sg, z, hf, hF, hS⟩ := fma_fin (!(s ^^ t)) t s l (frR q) (frR r) hlI (frR_lt q) (frR_lt r)
  obtain ⟨e1, e2⟩ := quo_tail s t r q l hbig _ rfl
  obtain ⟨u1, u2⟩ := unit_pos hF e2
  -- the rest is a number
  have hzI : z < INF := by
    have h1 := (hF.2 (2040 * 4503599627370496) (by rw [INF_eq]; omega)).2 ((Rt_nonpos _ _ _).2 (quo_rest s t (!(s ^^ t)) r q l hle))
    rw [INF_eq]; omega
  obtain ⟨y, hd, hy⟩ := div_fin sg t z (frR q) hzI (frR_lt q) (frR_pos q)
  generalize hE : V (!(s ^^ t)) l * V t (frR q) + V s (frR r) * (U : Int) = E at *
  have hE2 : (if t then -E else E) = if s ^^ t then -(Rt (M (frR r) * U) (M (frR q)) (M l)) else Rt (M (frR r) * U) (M (frR q)) (M l) := by
    rw [e1]; cases s <;> cases t <;> simp
  have hS2 : SgnOk (sg ^^ t) (if t then -E else E) := by
    obtain ⟨k1, k2⟩ := hS
    cases t
    · simp only [Bool.false_eq_true, if_false, Bool.xor_false]; exact ⟨k1, k2⟩
    · simp only [if_true, Bool.xor_true]
      exact ⟨fun h => by rw [k2 (by omega)]; rfl, fun h => by rw [k1 (by omega)]; rfl⟩
  have hne : (if t then -E else E) ≠ 0 → E ≠ 0 := by cases t <;> simp
  have heq : (if t then -E else E) = 0 → E = 0 := by cases t <;> simp
  have y1 : (if t then -E else E) ≠ 0 → 0 < y := by
    intro h
    have hz := u1 (hne h)
    have h1 := M_pos hz
    have h3 : M (frR q) ≤ M z * U := by
      have : M (frR q) ≤ U := fr_le_U q
      calc M (frR q) ≤ U := this
        _ = 1 * U := (Nat.one_mul _).symm
        _ ≤ _ := Nat.mul_le_mul_right _ h1
    have h4 := (hy.2 1 (by omega)).1 ((Rt_nonneg _ _ _).2 (by rw [M_one, Nat.one_mul]; exact h3))
    omega
  have y2 : (if t then -E else E) = 0 → y = 0 := by
    intro h
    have hz := u2 (heq h)
    subst hz
    exact hy.exact (Nat.zero_le _) (by unfold Rt; rw [M_zero]; simp)
  have o1 := order_self (sg ^^ t) y hy.1
  have o2 := tail_order (sg ^^ t) y _ hy.1 y1 y2 hS2
  obtain ⟨lo, hi, hLH, hB⟩ := bounds_scaled (s ^^ t) l (W (sg ^^ t) y) (fe r - fe q) _ _ _ H (by omega) (by omega) o1 o2
    (cmp_pos hE2) (cmp_neg hE2) (cmp_zero hE2)
  exact ⟨_, _, ⟨fun _ => by omega, fun _ _ => by omega, fun _ _ _ => by omega, fun _ _ _ => ⟨lo, hi, hLH, rfl, rfl⟩⟩,
    Div_num s t r q _ _ _ _ _ hq0 hrI hqI (quotientOf_walk s t r q l _ _ hr0 hrI hq0 hqI (Nat.le_of_lt hlI) hm hf hd) hB⟩
end Go.Proofs.Ytacnclofbnafiaa
