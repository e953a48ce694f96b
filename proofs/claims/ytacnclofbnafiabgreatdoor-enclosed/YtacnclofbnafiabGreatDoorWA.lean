import Derived.Test.YtacnclofbnafiabGreatDoorW6
import Derived.Test.YtacnclofbnafiabGreatDoorFA
namespace Go.Proofs.YtacnclofbnafiabGreatDoor
open Go.RowKit Fl

theorem isNaN_gen (s : Bool) (r : Nat) (hr : r < 9223372036854775808) (w : World) :
    Calls Tryz.prog 159 #[.float .f64 (W s r)] w fun e w' => e = .returned (.bool (decide (INF < r))) ∧ w' = w := by
  by_cases h : INF < r
  · rw [decide_eq_true h]; exact isNaN_yes s r h hr w
  · rw [decide_eq_false h]; exact isNaN_no s r (by omega) w
theorem all_any (w : World) :
    Calls Tryz.prog 160 #[] w fun e w' => e = .returned (.tuple #[.float .f64 (W true INF), .float .f64 (W false INF)]) ∧ w' = w := by
  go_enter Tryz.func160, Tryz.ntmps160
  go_wp2_with fail
  go_at_call 141
  refine (inf_neg _).mono ?_
  rintro e w' ⟨rfl, rfl⟩
  go_wp2_with fail
  go_at_call 141
  refine (inf_pos _).mono ?_
  rintro e w' ⟨rfl, rfl⟩
  go_wp2_with fail
  go_ret2
  exact ⟨rfl, rfl⟩

/-- What Mul answers. -/
structure MulSpec (s : Bool) (r : Nat) (t : Bool) (q D P : Nat) : Prop where
  nan : INF < r ∨ INF < q → D = W true INF ∧ P = W false INF
  zero : r ≤ INF → q ≤ INF → r = 0 ∨ q = 0 → D = 0 ∧ P = 0
  inf : 0 < r → 0 < q → r ≤ INF → q ≤ INF → r = INF ∨ q = INF → D = W (s ^^ t) INF ∧ P = W (s ^^ t) INF
  num : 0 < r → 0 < q → r < INF → q < INF → ∃ lo hi, LoHi (Rt (M r * M q) U) lo hi ∧ D = dnW (s ^^ t) lo hi ∧ P = upW (s ^^ t) lo hi

/-- The first tests of Mul. -/
theorem Mul_nan (s t : Bool) (r q : Nat) (hr : r < 9223372036854775808) (hq : q < 9223372036854775808) (h : INF < r ∨ INF < q) (w : World) :
    Calls Tryz.prog 163 #[.float .f64 (W s r), .float .f64 (W t q)] w
      fun e w' => e = .returned (.tuple #[.float .f64 (W true INF), .float .f64 (W false INF)]) ∧ w' = w := by
  by_cases h1 : INF < r
  · have g1 := decide_eq_true h1
    clear h h1
    go_enter Tryz.func163, Tryz.ntmps163
    go_wp2_with (first
      | (go_at_call 159; refine (isNaN_gen _ _ hr _).mono ?_; rintro e w' ⟨rfl, rfl⟩)
      | (go_at_call 160; refine (all_any _).mono ?_; rintro e w' ⟨rfl, rfl⟩))
    go_ret2
    exact ⟨rfl, rfl⟩
  · have h2 : INF < q := by omega
    have g1 := decide_eq_false h1
    have g2 := decide_eq_true h2
    clear h h1 h2
    go_enter Tryz.func163, Tryz.ntmps163
    go_wp2_with (first
      | (go_at_call 159; refine (isNaN_gen _ _ (by assumption) _).mono ?_; rintro e w' ⟨rfl, rfl⟩)
      | (go_at_call 160; refine (all_any _).mono ?_; rintro e w' ⟨rfl, rfl⟩))
    go_ret2
    exact ⟨rfl, rfl⟩
theorem Mul_zero (s t : Bool) (r q : Nat) (hr : r ≤ INF) (hq : q ≤ INF) (h : r = 0 ∨ q = 0) (w : World) :
    Calls Tryz.prog 163 #[.float .f64 (W s r), .float .f64 (W t q)] w
      fun e w' => e = .returned (.tuple #[.float .f64 0, .float .f64 0]) ∧ w' = w := by
  have hr' := fin_lt hr
  have hq' := fin_lt hq
  have g1 := decide_eq_false (Nat.not_lt.2 hr)
  have g2 := decide_eq_false (Nat.not_lt.2 hq)
  have z1 := order_zero s r hr'
  have z2 := order_zero t q hq'
  by_cases h1 : r = 0
  · rw [decide_eq_true h1] at z1
    clear h h1 z2
    go_enter Tryz.func163, Tryz.ntmps163
    go_wp2_with (go_at_call 159; refine (isNaN_gen _ _ (by assumption) _).mono ?_; rintro e w' ⟨rfl, rfl⟩)
    go_ret2
    exact ⟨rfl, rfl⟩
  · have h2 : q = 0 := by omega
    rw [decide_eq_false h1] at z1
    rw [decide_eq_true h2] at z2
    clear h h1 h2
    go_enter Tryz.func163, Tryz.ntmps163
    go_wp2_with (go_at_call 159; refine (isNaN_gen _ _ (by assumption) _).mono ?_; rintro e w' ⟨rfl, rfl⟩)
    go_ret2
    exact ⟨rfl, rfl⟩
theorem Mul_inf (s t : Bool) (r q : Nat) (hr0 : 0 < r) (hq0 : 0 < q) (hr : r ≤ INF) (hq : q ≤ INF) (h : r = INF ∨ q = INF) (w : World) :
    Calls Tryz.prog 163 #[.float .f64 (W s r), .float .f64 (W t q)] w
      fun e w' => e = .returned (.tuple #[.float .f64 (W (s ^^ t) INF), .float .f64 (W (s ^^ t) INF)]) ∧ w' = w := by
  have hr' := fin_lt hr
  have hq' := fin_lt hq
  have g1 := decide_eq_false (Nat.not_lt.2 hr)
  have g2 := decide_eq_false (Nat.not_lt.2 hq)
  have z1 := order_ne_zero s r hr0 hr'
  have z2 := order_ne_zero t q hq0 hq'
  have hm : Ieee.double.mul (W s r) (W t q) = some (W (s ^^ t) INF) := by
    rcases h with h | h
    · rw [h]; exact mul_inf_l s t q hq0 hq
    · rw [h]; exact mul_inf_r t s r hr0 hr
  have hmul := fun t' w => run_float_arith (P := Tryz.prog) w .mul t' .f64 _ _ _ hm
  clear hm
  generalize W (s ^^ t) INF = A at *
  by_cases h1 : r = INF
  · have i1 := decide_eq_true h1
    clear h h1
    go_enter Tryz.func163, Tryz.ntmps163
    go_wp2_with (first
      | (go_at_call 159; refine (isNaN_gen _ _ (by assumption) _).mono ?_; rintro e w' ⟨rfl, rfl⟩)
      | (go_at_call 60; refine (isInf0 _ _ (by assumption) _).mono ?_; rintro e w' ⟨rfl, rfl⟩))
    go_ret2
    exact ⟨rfl, rfl⟩
  · have h2 : q = INF := by omega
    have i1 := decide_eq_false h1
    have i2 := decide_eq_true h2
    clear h h1 h2
    go_enter Tryz.func163, Tryz.ntmps163
    go_wp2_with (first
      | (go_at_call 159; refine (isNaN_gen _ _ (by assumption) _).mono ?_; rintro e w' ⟨rfl, rfl⟩)
      | (go_at_call 60; refine (isInf0 _ _ (by assumption) _).mono ?_; rintro e w' ⟨rfl, rfl⟩))
    go_ret2
    exact ⟨rfl, rfl⟩
theorem Mul_num (s t : Bool) (r q L T D P : Nat) (n : Int) (hr0 : 0 < r) (hq0 : 0 < q) (hr : r < INF) (hq : q < INF)
    (hp : ∀ w, Calls Tryz.prog 171 #[.float .f64 (W s r), .float .f64 (W t q)] w
      fun e w' => e = .returned (.agg #[.float .f64 L, .float .f64 T, .int .i64 n]) ∧ Below w.heap.size w w')
    (hb : ∀ w, Calls Tryz.prog 162 #[.agg #[.float .f64 L, .float .f64 T, .int .i64 n]] w
      fun e w' => e = .returned (.tuple #[.float .f64 D, .float .f64 P]) ∧ Below w.heap.size w w') (w : World) :
    Calls Tryz.prog 163 #[.float .f64 (W s r), .float .f64 (W t q)] w
      fun e w' => e = .returned (.tuple #[.float .f64 D, .float .f64 P]) ∧ Below w.heap.size w w' := by
  have hr' := fin_lt (Nat.le_of_lt hr)
  have hq' := fin_lt (Nat.le_of_lt hq)
  have g1 : decide (INF < r) = false := decide_eq_false (by omega)
  have g2 : decide (INF < q) = false := decide_eq_false (by omega)
  have z1 := order_ne_zero s r hr0 hr'
  have z2 := order_ne_zero t q hq0 hq'
  have i1 : decide (r = INF) = false := decide_eq_false (by omega)
  have i2 : decide (q = INF) = false := decide_eq_false (by omega)
  go_enter Tryz.func163, Tryz.ntmps163
  go_wp2_with (first
    | (go_at_call 159; refine (isNaN_gen _ _ (by assumption) _).mono ?_; rintro e w' ⟨rfl, rfl⟩)
    | (go_at_call 60; refine (isInf0 _ _ (by assumption) _).mono ?_; rintro e w' ⟨rfl, rfl⟩)
    | (go_at_call 171; refine (hp _).mono ?_; rintro e w1 ⟨rfl, hb1⟩)
    | (go_at_call 162; refine (hb _).mono ?_; rintro e w2 ⟨rfl, hb2⟩))
  go_ret2
  exact ⟨rfl, hb1.trans (hb2.mono hb1.size)⟩
theorem Mul_any (s t : Bool) (r q : Nat) (hr : r < 9223372036854775808) (hq : q < 9223372036854775808) :
    ∃ D P, MulSpec s r t q D P ∧ ∀ w, Calls Tryz.prog 163 #[.float .f64 (W s r), .float .f64 (W t q)] w
      fun e w' => e = .returned (.tuple #[.float .f64 D, .float .f64 P]) ∧ Below w.heap.size w w' := by
  by_cases h1 : INF < r ∨ INF < q
  · exact ⟨_, _, ⟨fun _ => ⟨rfl, rfl⟩, fun _ _ => by omega, fun _ _ => by omega, fun _ _ => by omega⟩, fun w => (Mul_nan s t r q hr hq h1 w).mono fun e w' ⟨he, hw⟩ => ⟨he, hw ▸ Below.refl _ _⟩⟩
  by_cases h2 : r = 0 ∨ q = 0
  · exact ⟨_, _, ⟨fun _ => by omega, fun _ _ _ => ⟨rfl, rfl⟩, fun _ _ => by omega, fun _ _ => by omega⟩, fun w => (Mul_zero s t r q (by omega) (by omega) h2 w).mono fun e w' ⟨he, hw⟩ => ⟨he, hw ▸ Below.refl _ _⟩⟩
  by_cases h3 : r = INF ∨ q = INF
  · exact ⟨_, _, ⟨fun _ => by omega, fun _ _ => by omega, fun _ _ _ _ _ => ⟨rfl, rfl⟩, fun _ _ => by omega⟩, fun w => (Mul_inf s t r q (by omega) (by omega) (by omega) (by omega) h3 w).mono fun e w' ⟨he, hw⟩ => ⟨he, hw ▸ Below.refl _ _⟩⟩
  have hr0 : 0 < r := by omega
  have hq0 : 0 < q := by omega
  have hrI : r < INF := by omega
  have hqI : q < INF := by omega
  obtain ⟨l, hm, hl⟩ := mul_fin s t (frR r) (frR q) (frR_lt r) (frR_lt q)
  obtain ⟨H, _⟩ := prod_scaled r q l hr0 hq0 hl
  have hlI : l < INF := by have := H.top; omega
  obtain ⟨sg, z, hf, hF, hS⟩ := fma_fin s t (!(s ^^ t)) (frR r) (frR q) l (frR_lt r) (frR_lt q) hlI
  obtain ⟨e1, e2⟩ := prod_tail s t r q l _ rfl
  obtain ⟨u1, u2⟩ := unit_pos hF e2
  have o1 := order_self sg z hF.1
  have o2 := tail_order sg z _ hF.1 u1 u2 hS
  obtain ⟨b1, b2⟩ := fe_bd r hr0 hrI
  obtain ⟨b3, b4⟩ := fe_bd q hq0 hqI
  obtain ⟨lo, hi, hLH, hB⟩ := bounds_scaled (s ^^ t) l (W sg z) (fe r + fe q) _ _ _ H (by omega) (by omega) o1 o2
    (cmp_pos e1) (cmp_neg e1) (cmp_zero e1)
  exact ⟨_, _, ⟨fun _ => by omega, fun _ _ => by omega, fun _ _ => by omega, fun _ _ _ _ => ⟨lo, hi, hLH, rfl, rfl⟩⟩,
    Mul_num s t r q _ _ _ _ _ hr0 hq0 hrI hqI (productOf_walk s t r q l _ hr0 hrI hq0 hqI (Nat.le_of_lt hlI) hm hf) hB⟩
end Go.Proofs.YtacnclofbnafiabGreatDoor

namespace Go.Proofs.YtacnclofbnafiabGreatDoor
open Go.RowKit Fl

/-- What Div answers. -/
structure DivSpec (s : Bool) (r : Nat) (t : Bool) (q D P : Nat) : Prop where
  all : INF < r ∨ INF < q ∨ q = 0 ∨ (r = INF ∧ q = INF) → D = W true INF ∧ P = W false INF
  inf_r : r < INF → q = INF → D = 0 ∧ P = 0
  inf_l : r = INF → 0 < q → q < INF → D = W (s ^^ t) INF ∧ P = W (s ^^ t) INF
  num : 0 < q → r < INF → q < INF → ∃ lo hi, LoHi (Rt (M r * U) (M q)) lo hi ∧ D = dnW (s ^^ t) lo hi ∧ P = upW (s ^^ t) lo hi

theorem order_00 : Ieee.double.order 0 0 = some .eq := by have := order_self false 0 (Nat.zero_le _); rwa [W_zero] at this
/-- BOUNDS of 0. -/
theorem bounds_zero (s u : Bool) (n : Int) (C : Nat → Int) (hn1 : -5000 ≤ n) (hn2 : n ≤ 5000) (hC : Anti C) (h0 : C 0 = 0) :
    ∃ lo hi, LoHi C lo hi ∧ ∀ w, Calls Tryz.prog 162 #[.agg #[.float .f64 (W s 0), .float .f64 (W u 0), .int .i64 n]] w
      fun e w' => e = .returned (.tuple #[.float .f64 (dnW s lo hi), .float .f64 (upW s lo hi)]) ∧ Below w.heap.size w w' := by
  have o1 := order_self s 0 (Nat.zero_le _)
  have hsd := side_eq (W s 0) (W u 0) (W s 0) (W s 0) n .eq hn1 hn2 (Ldexp_zero s (-n)) o1 o1 o1 (order_self u 0 (Nat.zero_le _)) (order_zero_zero u) order_00
  have hF : Faith C 0 := by
    refine ⟨Nat.zero_le _, fun k _ => ⟨fun h => ?_, fun _ => Nat.zero_le _⟩⟩
    rcases Nat.eq_zero_or_pos k with e | e
    · omega
    · have := hC.neg (M_pos e) (by omega : C 0 ≤ 0); omega
  refine bounds_near s (W s 0) (W u 0) 0 n _ C (Ldexp_zero s n) hsd hF (by omega) 0 (by cases s <;> rfl) (fun h => by have := INF_pos; omega) (fun _ h => by omega) (fun _ h => by omega) (fun _ _ => by rw [M_zero]; exact h0)
end Go.Proofs.YtacnclofbnafiabGreatDoor

namespace Go.Proofs.YtacnclofbnafiabGreatDoor
open Go.RowKit Fl

/-- What Sqrt answers. -/
structure SqrtSpec (s : Bool) (r D P : Nat) : Prop where
  no : INF < r ∨ (s = true ∧ 0 < r) → D = 0 ∧ P = W false INF
  zero : r = 0 → D = 0 ∧ P = 0
  inf : s = false → r = INF → D = W false INF ∧ P = W false INF
  num : s = false → 0 < r → r < INF → ∃ lo hi, LoHi (Sq (M r * U)) lo hi ∧ D = pw false lo ∧ P = pw false hi

theorem Sqrt_no (s : Bool) (r : Nat) (hr : r < 9223372036854775808) (h : INF < r ∨ (s = true ∧ 0 < r)) (w : World) :
    Calls Tryz.prog 172 #[.float .f64 (W s r)] w
      fun e w' => e = .returned (.tuple #[.float .f64 0, .float .f64 (W false INF)]) ∧ w' = w := by
  by_cases h1 : INF < r
  · have g1 := decide_eq_true h1
    clear h h1
    go_enter Tryz.func172, Tryz.ntmps172
    go_wp2_with (first
      | (go_at_call 159; refine (isNaN_gen _ _ (by assumption) _).mono ?_; rintro e w' ⟨rfl, rfl⟩)
      | (go_at_call 141; refine (inf_pos _).mono ?_; rintro e w' ⟨rfl, rfl⟩))
    go_ret2
    exact ⟨rfl, rfl⟩
  · have h2 : s = true ∧ 0 < r := h.resolve_left h1
    have g1 := decide_eq_false h1
    have z := order_gt_zero s r h2.2 (by omega)
    rw [h2.1] at z ⊢
    clear h h1 h2
    go_enter Tryz.func172, Tryz.ntmps172
    go_wp2_with (first
      | (go_at_call 159; refine (isNaN_gen _ _ (by assumption) _).mono ?_; rintro e w' ⟨rfl, rfl⟩)
      | (go_at_call 141; refine (inf_pos _).mono ?_; rintro e w' ⟨rfl, rfl⟩))
    go_ret2
    exact ⟨rfl, rfl⟩
theorem Sqrt_inf (r : Nat) (h : r = INF) (w : World) :
    Calls Tryz.prog 172 #[.float .f64 (W false r)] w
      fun e w' => e = .returned (.tuple #[.float .f64 (W false r), .float .f64 (W false r)]) ∧ w' = w := by
  have hr := fin_lt (Nat.le_of_eq h)
  have g1 : decide (INF < r) = false := decide_eq_false (by omega)
  have i1 : decide (r = INF) = true := decide_eq_true h
  have z := order_gt_zero false r (by have := INF_pos; omega) (by omega)
  clear h
  go_enter Tryz.func172, Tryz.ntmps172
  go_wp2_with (first
    | (go_at_call 159; refine (isNaN_gen _ _ (by assumption) _).mono ?_; rintro e w' ⟨rfl, rfl⟩)
    | (go_at_call 60; refine (isInf1 _ (by assumption) _).mono ?_; rintro e w' ⟨rfl, rfl⟩))
  go_ret2
  exact ⟨rfl, rfl⟩
theorem isInf1' (s : Bool) (r : Nat) (hr : r < INF) (w : World) :
    Calls Tryz.prog 60 #[.float .f64 (W s r), .int .i64 1] w fun e w' => e = .returned (.bool false) ∧ w' = w := by
  have h : (Ieee.double.order (W s r) 9218868437227405311 == some .gt) = false := order_max_no s r hr
  go_enter Tryz.func60, Tryz.ntmps60
  go_wp2
  go_ret
  exact ⟨rfl, rfl⟩
theorem Sqrt_num (s : Bool) (r L T D P : Nat) (n : Int) (hr : r < INF) (hz : (Ieee.double.order (W s r) 0 == some .lt) = false)
    (hp : ∀ w, Calls Tryz.prog 180 #[.float .f64 (W s r)] w
      fun e w' => e = .returned (.agg #[.float .f64 L, .float .f64 T, .int .i64 n]) ∧ Below w.heap.size w w')
    (hb : ∀ w, Calls Tryz.prog 162 #[.agg #[.float .f64 L, .float .f64 T, .int .i64 n]] w
      fun e w' => e = .returned (.tuple #[.float .f64 D, .float .f64 P]) ∧ Below w.heap.size w w') (w : World) :
    Calls Tryz.prog 172 #[.float .f64 (W s r)] w
      fun e w' => e = .returned (.tuple #[.float .f64 D, .float .f64 P]) ∧ Below w.heap.size w w' := by
  have hr' := fin_lt (Nat.le_of_lt hr)
  have g1 : decide (INF < r) = false := decide_eq_false (by omega)
  have i1 := isInf1' s r hr
  clear hr
  go_enter Tryz.func172, Tryz.ntmps172
  go_wp2_with (first
    | (go_at_call 159; refine (isNaN_gen _ _ (by assumption) _).mono ?_; rintro e w' ⟨rfl, rfl⟩)
    | (go_at_call 60; refine (i1 _).mono ?_; rintro e w' ⟨rfl, rfl⟩)
    | (go_at_call 180; refine (hp _).mono ?_; rintro e w1 ⟨rfl, hb1⟩)
    | (go_at_call 162; refine (hb _).mono ?_; rintro e w2 ⟨rfl, hb2⟩))
  go_ret2
  exact ⟨rfl, hb1.trans (hb2.mono hb1.size)⟩
set_option maxHeartbeats 400000 in
theorem rootOf_zero (s u : Bool) (hT : Ieee.double.fma (W (!s) 0) (W s 0) (W s 0) = some (W u 0)) (w : World) :
    Calls Tryz.prog 180 #[.float .f64 (W s 0)] w
      fun e w' => e = .returned (.agg #[.float .f64 (W s 0), .float .f64 (W u 0), .int .i64 0]) ∧ Below w.heap.size w w' := by
  have hfma := fma_run _ _ _ _ hT
  have hneg := unary_negF s 0 (by omega)
  have hsq := Sqrt_any _ _ (sqrt_zero s)
  have hf := Frexp_zero s
  clear hT
  go_enter Tryz.func180, Tryz.ntmps180
  go_wp2_with (first
    | (go_at_call 178; refine (hf _).mono ?_; rintro e w' ⟨rfl, rfl⟩)
    | (go_at_call 185; refine (hsq _).mono ?_; rintro e w' ⟨rfl, rfl⟩))
  exact bodyPost_ret (v := .agg #[.float .f64 (W s 0), .float .f64 (W u 0), .int .i64 0]) (by simp [results, Tryz.results180, go_sem]) rfl ⟨rfl, (Below.refl _ _).alloc (Nat.le_refl _) _⟩
theorem LoHi_zero {C : Nat → Int} (hC : Anti C) (h0 : C 0 = 0) {lo hi : Nat} (h : LoHi C lo hi) : lo = 0 ∧ hi = 0 := by
  constructor
  · rcases Nat.eq_zero_or_pos lo with e | e
    · exact e
    · have := hC.neg (M_pos e) (by omega : C 0 ≤ 0); have := h.lo_ok; omega
  · rcases Nat.eq_zero_or_pos hi with e | e
    · exact e
    · have h1 := h.hi_prev e
      rcases Nat.eq_zero_or_pos (hi - 1) with e' | e'
      · rw [e', M_zero] at h1; omega
      · have := hC.neg (M_pos e') (by omega : C 0 ≤ 0); omega
theorem Sqrt_all (s : Bool) (r : Nat) (hr : r < 9223372036854775808) :
    ∃ D P, SqrtSpec s r D P ∧ ∀ w, Calls Tryz.prog 172 #[.float .f64 (W s r)] w
      fun e w' => e = .returned (.tuple #[.float .f64 D, .float .f64 P]) ∧ Below w.heap.size w w' := by
  have hIp := INF_pos
  by_cases h1 : INF < r ∨ (s = true ∧ 0 < r)
  · refine ⟨_, _, ⟨fun _ => ⟨rfl, rfl⟩, fun _ => by omega, fun hs _ => ?_, fun hs _ _ => ?_⟩, fun w => (Sqrt_no s r hr h1 w).mono fun e w' ⟨he, hw⟩ => ⟨he, hw ▸ Below.refl _ _⟩⟩
    · rcases h1 with h | h
      · omega
      · rw [hs] at h; simp at h
    · rcases h1 with h | h
      · omega
      · rw [hs] at h; simp at h
  by_cases h2 : r = 0
  · subst h2
    obtain ⟨u, z, hf, hF, hS⟩ := fma_fin (!s) s s 0 0 0 hIp hIp hIp
    have hz0 : z = 0 := by
      rw [V_zero, V_zero, Int.zero_mul, Int.zero_mul] at hF
      exact hF.exact (Nat.zero_le _) (by unfold Rt; rw [M_zero]; simp)
    subst hz0
    obtain ⟨lo, hi, hLH, hB⟩ := bounds_zero s u 0 (Sq 0) (by omega) (by omega) (Sq_anti _) (by unfold Sq; simp)
    obtain ⟨rfl, rfl⟩ := LoHi_zero (Sq_anti _) (by unfold Sq; simp) hLH
    have d0 : dnW s 0 0 = 0 := by unfold dnW pw; cases s <;> rfl
    have u0 : upW s 0 0 = 0 := by unfold upW pw; cases s <;> rfl
    rw [d0, u0] at hB
    have hz : (Ieee.double.order (W s 0) 0 == some .lt) = false := by rw [order_zero_zero]; rfl
    exact ⟨0, 0, ⟨fun _ => by omega, fun _ => ⟨rfl, rfl⟩, fun _ _ => by omega, fun _ _ => by omega⟩, Sqrt_num s 0 _ _ _ _ _ hIp hz (rootOf_zero s u hf) hB⟩
  have hs : s = false := by
    cases s with
    | false => rfl
    | true => exfalso; exact h1 (.inr ⟨rfl, by omega⟩)
  subst hs
  by_cases h3 : r = INF
  · exact ⟨_, _, ⟨fun h => by simp at h; omega, fun _ => by omega, fun _ _ => by rw [h3]; exact ⟨rfl, rfl⟩, fun _ _ _ => by omega⟩, fun w => (Sqrt_inf r h3 w).mono fun e w' ⟨he, hw⟩ => ⟨he, hw ▸ Below.refl _ _⟩⟩
  have hr0 : 0 < r := by omega
  have hrI : r < INF := by omega
  obtain ⟨b1, b2⟩ := fe_bd r hr0 hrI
  obtain ⟨l, hm, hl⟩ := sqrt_fin (rr r) (rr_lt r) (rr_pos r)
  obtain ⟨H, hbig, _⟩ := root_scaled r l hr0 hl
  have hlI : l < INF := by have := H.top; omega
  obtain ⟨sg, z, hf, hF, hS⟩ := fma_fin true false false l l (rr r) hlI hlI (rr_lt r)
  obtain ⟨e1, e2⟩ := root_tail r l hbig _ rfl
  obtain ⟨u1, u2⟩ := unit_pos hF e2
  have o1 := order_self sg z hF.1
  have o2 := tail_order sg z _ hF.1 u1 u2 hS
  have e1' : V true l * V false l + V false (rr r) * (U : Int) = if false then -(Sq (M (rr r) * U) (M l)) else Sq (M (rr r) * U) (M l) := e1
  obtain ⟨lo, hi, hLH, hB⟩ := bounds_scaled false l (W sg z) (rn r) _ _ _ H (by unfold rn; omega) (by unfold rn; omega) o1 o2
    (cmp_pos e1') (cmp_neg e1') (cmp_zero e1')
  have hk : (fe r % 2 = 0 ∧ W false (rr r) = W false (frR r) ∧ rn r = fe r / 2) ∨ (fe r % 2 ≠ 0 ∧ Ieee.double.mul 4611686018427387904 (W false (frR r)) = some (W false (rr r)) ∧ rn r = (fe r - 1) / 2) := by
    by_cases hev : fe r % 2 = 0
    · left
      exact ⟨hev, by unfold rr; rw [if_pos hev], rfl⟩
    · right
      refine ⟨hev, ?_, by unfold rn; omega⟩
      have : rr r = frR r + 4503599627370496 := by unfold rr; rw [if_neg hev]
      rw [this]
      refine mul_two (frR r) (by unfold frR; omega) ?_
      rw [← this]; exact rr_lt r
  exact ⟨_, _, ⟨fun h => by simp at h; omega, fun _ => by omega, fun _ _ => by omega, fun _ _ _ => ⟨lo, hi, hLH, rfl, rfl⟩⟩,
    Sqrt_num false r _ _ _ _ _ hrI (order_gt_zero false r hr0 (Nat.le_of_lt hrI)) (rootOf_walk _ _ l _ _ _ b1 b2 (frexpR false r hr0 hrI) _ hk (Nat.le_of_lt hlI) hm hf) hB⟩
end Go.Proofs.YtacnclofbnafiabGreatDoor

namespace Go.Proofs.YtacnclofbnafiabGreatDoor
open Go.RowKit Fl

set_option maxHeartbeats 400000 in
/-- SUMOF, the greater one first. -/
theorem sumOf_keep (s t sg : Bool) (r q l d T : Nat) (hr : r < INF) (hq : q < INF) (hqr : q ≤ r)
    (h1 : Ieee.double.add (W s r) (W t q) = some (W sg l)) (h2 : Ieee.double.sub (W sg l) (W s r) = some d) (h3 : Ieee.double.sub (W t q) d = some T) (w : World) :
    Calls Tryz.prog 161 #[.float .f64 (W s r), .float .f64 (W t q)] w
      fun e w' => e = .returned (.agg #[.float .f64 (W sg l), .float .f64 T, .int .i64 0]) ∧ Below w.heap.size w w' := by
  have hr' := fin_lt (Nat.le_of_lt hr)
  have hq' := fin_lt (Nat.le_of_lt hq)
  have ho := order_lt_pos r q hr hq
  rw [decide_eq_false (by omega)] at ho
  have a1 := fun t' w => run_float_arith (P := Tryz.prog) w .add t' .f64 _ _ _ h1
  have a2 := fun t' w => run_float_arith (P := Tryz.prog) w .sub t' .f64 _ _ _ h2
  have a3 := fun t' w => run_float_arith (P := Tryz.prog) w .sub t' .f64 _ _ _ h3
  clear h1 h2 h3 hr hq hqr
  go_enter Tryz.func161, Tryz.ntmps161
  go_wp2_with (go_at_call 44; refine (abs_any _ _ (by assumption) _).mono ?_; rintro e w' ⟨rfl, rfl⟩)
  exact bodyPost_ret (v := .agg #[.float .f64 (W sg l), .float .f64 T, .int .i64 0]) (by simp [results, Tryz.results161, go_sem]) rfl ⟨rfl, (Below.refl _ _).alloc (Nat.le_refl _) _⟩
set_option maxHeartbeats 400000 in
theorem sumOf_swap (s t sg : Bool) (r q l d T : Nat) (hr : r < INF) (hq : q < INF) (hqr : r < q)
    (h1 : Ieee.double.add (W t q) (W s r) = some (W sg l)) (h2 : Ieee.double.sub (W sg l) (W t q) = some d) (h3 : Ieee.double.sub (W s r) d = some T) (w : World) :
    Calls Tryz.prog 161 #[.float .f64 (W s r), .float .f64 (W t q)] w
      fun e w' => e = .returned (.agg #[.float .f64 (W sg l), .float .f64 T, .int .i64 0]) ∧ Below w.heap.size w w' := by
  have hr' := fin_lt (Nat.le_of_lt hr)
  have hq' := fin_lt (Nat.le_of_lt hq)
  have ho := order_lt_pos r q hr hq
  rw [decide_eq_true hqr] at ho
  have a1 := fun t' w => run_float_arith (P := Tryz.prog) w .add t' .f64 _ _ _ h1
  have a2 := fun t' w => run_float_arith (P := Tryz.prog) w .sub t' .f64 _ _ _ h2
  have a3 := fun t' w => run_float_arith (P := Tryz.prog) w .sub t' .f64 _ _ _ h3
  clear h1 h2 h3 hr hq hqr
  go_enter Tryz.func161, Tryz.ntmps161
  go_wp2_with (go_at_call 44; refine (abs_any _ _ (by assumption) _).mono ?_; rintro e w' ⟨rfl, rfl⟩)
  exact bodyPost_ret (v := .agg #[.float .f64 (W sg l), .float .f64 T, .int .i64 0]) (by simp [results, Tryz.results161, go_sem]) rfl ⟨rfl, (Below.refl _ _).alloc (Nat.le_refl _) _⟩
theorem LdOk_zero {l z : Nat} (hl : l ≤ INF) (h : LdOk l 0 z) : z = l :=
  h.exact hl (by unfold Rt; simp)
theorem Ldexp_same (s : Bool) (l : Nat) (hl : l ≤ INF) (w : World) :
    Calls Tryz.prog 168 #[.float .f64 (W s l), .int .i64 0] w fun e w' => e = .returned (.float .f64 (W s l)) ∧ w' = w := by
  rcases Nat.lt_or_eq_of_le hl with h | h
  · rcases Nat.eq_zero_or_pos l with e | e
    · subst e; exact Ldexp_zero s 0 w
    · obtain ⟨z, hz, hc⟩ := Ldexp_any s l 0 e h (by omega) (by omega)
      rw [LdOk_zero hl hz] at hc
      exact hc w
  · subst h; exact Ldexp_inf s 0 w
/-- The sum's bounds. -/
theorem bounds_sum (sg : Bool) (l T : Nat) (E : Int) (hl : Faith (Rt E.natAbs 1) l) (hs : SgnOk sg E) (hT : Ieee.double.order T T = some .eq)
    (hT0 : (l < INF ∧ Ieee.double.order T 0 = some (compare (E - V sg l) 0)) ∨ (l = INF ∧ Ieee.double.order T 0 = some (if sg then .gt else .lt))) :
    ∃ lo hi, LoHi (Rt E.natAbs 1) lo hi ∧ ∀ w, Calls Tryz.prog 162 #[.agg #[.float .f64 (W sg l), .float .f64 T, .int .i64 0]] w
      fun e w' => e = .returned (.tuple #[.float .f64 (dnW sg lo hi), .float .f64 (upW sg lo hi)]) ∧ Below w.heap.size w w' := by
  have hx := Ldexp_same sg l hl.1
  have oL := order_self sg l hl.1
  have h0 : (0 : Int) ≤ Rt E.natAbs 1 0 := by unfold Rt; omega
  rcases hT0 with ⟨hlI, ho⟩ | ⟨hlI, ho⟩
  · have hsd := side_eq (W sg l) T (W sg l) (W sg l) 0 _ (by omega) (by omega) hx oL oL oL hT ho order_00
    have hE : l ≠ 0 → E - V sg l = if sg then -(Rt E.natAbs 1 (M l)) else Rt E.natAbs 1 (M l) := by
      intro hl0
      have hne : E ≠ 0 := by
        rintro rfl
        exact hl0 (hl.exact (Nat.zero_le _) (by unfold Rt; rw [M_zero]; simp))
      unfold Rt V
      rcases Int.lt_trichotomy E 0 with h | h | h
      · rw [hs.1 h]; simp; omega
      · omega
      · rw [hs.2 h]; simp; omega
    have hE0 : l = 0 → E - V sg l = if sg then -(Rt E.natAbs 1 (M l)) else Rt E.natAbs 1 (M l) := by
      intro hl0
      subst hl0
      rw [V_zero, M_zero]
      unfold Rt
      rcases Int.lt_trichotomy E 0 with h | h | h
      · rw [hs.1 h]; simp; omega
      · subst h; cases sg <;> simp
      · rw [hs.2 h]; simp; omega
    have hE' : E - V sg l = if sg then -(Rt E.natAbs 1 (M l)) else Rt E.natAbs 1 (M l) := by
      by_cases e : l = 0
      · exact hE0 e
      · exact hE e
    exact bounds_near sg (W sg l) T l 0 _ _ hx hsd hl h0 _ rfl (fun e => by omega) (fun _ h => cmp_pos hE' h) (fun _ h => cmp_neg hE' h)
      (fun _ h => cmp_zero hE' (by cases sg <;> simp at h <;> omega))
  · have hsd := side_eq (W sg l) T (W sg l) (W sg l) 0 _ (by omega) (by omega) hx oL oL oL hT ho order_00
    exact bounds_near sg (W sg l) T l 0 _ _ hx hsd hl h0 (-1) (by cases sg <;> rfl) (fun _ => by omega) (fun _ h => by omega) (fun h => by omega) (fun _ h => by omega)
theorem sum_all (s t : Bool) (r q : Nat) (hr : r < INF) (hq : q < INF) :
    ∃ sg L T lo hi, SgnOk sg (V s r + V t q) ∧ LoHi (Rt (V s r + V t q).natAbs 1) lo hi
      ∧ (∀ w, Calls Tryz.prog 161 #[.float .f64 (W s r), .float .f64 (W t q)] w
        fun e w' => e = .returned (.agg #[.float .f64 L, .float .f64 T, .int .i64 0]) ∧ Below w.heap.size w w')
      ∧ (∀ w, Calls Tryz.prog 162 #[.agg #[.float .f64 L, .float .f64 T, .int .i64 0]] w
        fun e w' => e = .returned (.tuple #[.float .f64 (dnW sg lo hi), .float .f64 (upW sg lo hi)]) ∧ Below w.heap.size w w') := by
  by_cases h : q ≤ r
  · obtain ⟨sg, l, T, h1, h2, h3, ⟨d, h4, h5⟩, h6, h7⟩ := fast_sum s t r q h hr hq
    obtain ⟨lo, hi, hLH, hB⟩ := bounds_sum sg l T _ h2 h3 h6 h7
    exact ⟨sg, _, T, lo, hi, h3, hLH, sumOf_keep s t sg r q l d T hr hq h h1 h4 h5, hB⟩
  · obtain ⟨sg, l, T, h1, h2, h3, ⟨d, h4, h5⟩, h6, h7⟩ := fast_sum t s q r (by omega) hq hr
    rw [Int.add_comm] at h2 h3 h7
    obtain ⟨lo, hi, hLH, hB⟩ := bounds_sum sg l T _ h2 h3 h6 h7
    exact ⟨sg, _, T, lo, hi, h3, hLH, sumOf_swap s t sg r q l d T hr hq (by omega) h1 h4 h5, hB⟩
/-- What Add answers. -/
structure AddSpec (s : Bool) (r : Nat) (t : Bool) (q D P : Nat) : Prop where
  all : INF < r ∨ INF < q ∨ (r = INF ∧ q = INF ∧ s ≠ t) → D = W true INF ∧ P = W false INF
  inf_l : r = INF → q ≤ INF → (q = INF → s = t) → D = W s INF ∧ P = W s INF
  inf_r : r < INF → q = INF → D = W t INF ∧ P = W t INF
  num : r < INF → q < INF → ∃ sg lo hi, SgnOk sg (V s r + V t q) ∧ LoHi (Rt (V s r + V t q).natAbs 1) lo hi ∧ D = dnW sg lo hi ∧ P = upW sg lo hi
/-- A NaN out of an operation: which one, the tape says. -/
theorem nan_cut (t : Nat) : ∃ s r, INF < r ∧ r < 9223372036854775808 ∧ t % 2 * 2 ^ 63 + 0x7ff0000000000000 + 1 + (t / 2) % (2 ^ 52 - 1) = W s r := by
  have h1 : (t / 2) % (2 ^ 52 - 1) < 2 ^ 52 - 1 := Nat.mod_lt _ (by decide)
  rw [show (2 ^ 52 - 1 : Nat) = 4503599627370495 by decide] at h1 ⊢
  generalize (t / 2) % 4503599627370495 = u at h1 ⊢
  refine ⟨decide (t % 2 = 1), 9218868437227405312 + 1 + u, by rw [INF_eq]; omega, by omega, ?_⟩
  rw [show (2 ^ 63 : Nat) = 9223372036854775808 by decide, show (0x7ff0000000000000 : Nat) = 9218868437227405312 by decide]
  unfold W
  rcases Nat.mod_two_eq_zero_or_one t with h | h
  · rw [h]; simp
  · rw [h]; simp; omega
theorem run_add_nan (x y : Nat) (h : Ieee.double.add x y = none) (w : World) : ∃ s r, INF < r ∧ r < 9223372036854775808 ∧
    ∀ t', (binOp .add t' (.float .f64 x) (.float .f64 y)).run Tryz.prog w = .ok (.float .f64 (W s r)) w.drew := by
  obtain ⟨s, r, h1, h2, h3⟩ := nan_cut (w.tape w.drawn (.nanBits .f64 x y))
  refine ⟨s, r, h1, h2, fun t' => ?_⟩
  have h' : FloatKind.f64.format.add x y = none := h
  rw [← h3]
  simp [binOp, Op.floatArith, h', choose, Sem.run, Question.forced, Question.cut]
theorem Add_nan (s t : Bool) (r q : Nat) (h : Ieee.double.add (W s r) (W t q) = none) (w : World) :
    Calls Tryz.prog 147 #[.float .f64 (W s r), .float .f64 (W t q)] w
      fun e w' => e = .returned (.tuple #[.float .f64 (W true INF), .float .f64 (W false INF)]) ∧ Below w.heap.size w w' := by
  obtain ⟨u, v, h1, h2, h3⟩ := run_add_nan _ _ h w
  have g1 := decide_eq_true h1
  clear h h1
  go_enter Tryz.func147, Tryz.ntmps147
  go_wp2_with (first
    | (go_at_call 159; refine (isNaN_gen _ _ (by assumption) _).mono ?_; rintro e w' ⟨rfl, rfl⟩)
    | (go_at_call 160; refine (all_any _).mono ?_; rintro e w' ⟨rfl, rfl⟩))
  go_ret2
  exact ⟨rfl, (Below.refl _ _).drew⟩
theorem Add_inf (s t u : Bool) (r q : Nat) (hr : r ≤ INF) (hq : q ≤ INF) (hi : r = INF ∨ q = INF) (h : Ieee.double.add (W s r) (W t q) = some (W u INF)) (w : World) :
    Calls Tryz.prog 147 #[.float .f64 (W s r), .float .f64 (W t q)] w
      fun e w' => e = .returned (.tuple #[.float .f64 (W u INF), .float .f64 (W u INF)]) ∧ Below w.heap.size w w' := by
  have hr' := fin_lt hr
  have hq' := fin_lt hq
  have a1 := fun t' w => run_float_arith (P := Tryz.prog) w .add t' .f64 _ _ _ h
  obtain ⟨I, hI⟩ : ∃ I, I = INF := ⟨_, rfl⟩
  have g : decide (INF < I) = false := decide_eq_false (by omega)
  have hI' := fin_lt (Nat.le_of_eq hI)
  rw [← hI] at a1 ⊢
  clear h
  by_cases h1 : r = INF
  · have i1 := decide_eq_true h1
    clear hi h1 hI hr hq
    go_enter Tryz.func147, Tryz.ntmps147
    go_wp2_with (first
      | (go_at_call 159; refine (isNaN_gen _ _ (by assumption) _).mono ?_; rintro e w' ⟨rfl, rfl⟩)
      | (go_at_call 60; refine (isInf0 _ _ (by assumption) _).mono ?_; rintro e w' ⟨rfl, rfl⟩))
    go_ret2
    exact ⟨rfl, Below.refl _ _⟩
  · have i1 := decide_eq_false h1
    have i2 : decide (q = INF) = true := decide_eq_true (by omega)
    clear hi h1 hI hr hq
    go_enter Tryz.func147, Tryz.ntmps147
    go_wp2_with (first
      | (go_at_call 159; refine (isNaN_gen _ _ (by assumption) _).mono ?_; rintro e w' ⟨rfl, rfl⟩)
      | (go_at_call 60; refine (isInf0 _ _ (by assumption) _).mono ?_; rintro e w' ⟨rfl, rfl⟩))
    go_ret2
    exact ⟨rfl, Below.refl _ _⟩
theorem Add_num (s t u : Bool) (r q z L T D P : Nat) (n : Int) (hr : r < INF) (hq : q < INF) (hz : z ≤ INF) (h : Ieee.double.add (W s r) (W t q) = some (W u z))
    (hp : ∀ w, Calls Tryz.prog 161 #[.float .f64 (W s r), .float .f64 (W t q)] w
      fun e w' => e = .returned (.agg #[.float .f64 L, .float .f64 T, .int .i64 n]) ∧ Below w.heap.size w w')
    (hb : ∀ w, Calls Tryz.prog 162 #[.agg #[.float .f64 L, .float .f64 T, .int .i64 n]] w
      fun e w' => e = .returned (.tuple #[.float .f64 D, .float .f64 P]) ∧ Below w.heap.size w w') (w : World) :
    Calls Tryz.prog 147 #[.float .f64 (W s r), .float .f64 (W t q)] w
      fun e w' => e = .returned (.tuple #[.float .f64 D, .float .f64 P]) ∧ Below w.heap.size w w' := by
  have hr' := fin_lt (Nat.le_of_lt hr)
  have hq' := fin_lt (Nat.le_of_lt hq)
  have hz' := fin_lt hz
  have a1 := fun t' w => run_float_arith (P := Tryz.prog) w .add t' .f64 _ _ _ h
  have g : decide (INF < z) = false := decide_eq_false (by omega)
  have i1 : decide (r = INF) = false := decide_eq_false (by omega)
  have i2 : decide (q = INF) = false := decide_eq_false (by omega)
  clear h hr hq hz
  go_enter Tryz.func147, Tryz.ntmps147
  go_wp2_with (first
    | (go_at_call 159; refine (isNaN_gen _ _ (by assumption) _).mono ?_; rintro e w' ⟨rfl, rfl⟩)
    | (go_at_call 60; refine (isInf0 _ _ (by assumption) _).mono ?_; rintro e w' ⟨rfl, rfl⟩)
    | (go_at_call 161; refine (hp _).mono ?_; rintro e w1 ⟨rfl, hb1⟩)
    | (go_at_call 162; refine (hb _).mono ?_; rintro e w2 ⟨rfl, hb2⟩))
  go_ret2
  exact ⟨rfl, hb1.trans (hb2.mono hb1.size)⟩
theorem Add_any (s t : Bool) (r q : Nat) (hr : r < 9223372036854775808) (hq : q < 9223372036854775808) :
    ∃ D P, AddSpec s r t q D P ∧ ∀ w, Calls Tryz.prog 147 #[.float .f64 (W s r), .float .f64 (W t q)] w
      fun e w' => e = .returned (.tuple #[.float .f64 D, .float .f64 P]) ∧ Below w.heap.size w w' := by
  by_cases h1 : INF < r
  · exact ⟨_, _, ⟨fun _ => ⟨rfl, rfl⟩, fun _ _ => by omega, fun _ _ => by omega, fun _ _ => by omega⟩, Add_nan s t r q (add_nan_l s r _ h1 hr)⟩
  by_cases h2 : INF < q
  · exact ⟨_, _, ⟨fun _ => ⟨rfl, rfl⟩, fun _ _ => by omega, fun _ _ => by omega, fun _ _ => by omega⟩, Add_nan s t r q (add_nan_r t q _ h2 hq)⟩
  by_cases h3 : r = INF
  · by_cases h4 : q = INF
    · by_cases h5 : s = t
      · subst h5
        exact ⟨_, _, ⟨fun h => by simp at h; omega, fun _ _ _ => ⟨rfl, rfl⟩, fun _ _ => by omega, fun _ _ => by omega⟩, Add_inf s s s r q (by omega) (by omega) (.inl h3) (by rw [h3, h4]; exact add_inf_inf s)⟩
      · have ht : t = !s := by cases s <;> cases t <;> simp at h5 ⊢
        exact ⟨_, _, ⟨fun _ => ⟨rfl, rfl⟩, fun _ _ h => absurd (h h4) h5, fun _ _ => by omega, fun _ _ => by omega⟩, Add_nan s t r q (by rw [h3, h4, ht]; exact add_inf_not s)⟩
    · exact ⟨_, _, ⟨fun h => by omega, fun _ _ _ => ⟨rfl, rfl⟩, fun _ _ => by omega, fun _ _ => by omega⟩, Add_inf s t s r q (by omega) (by omega) (.inl h3) (by rw [h3]; exact add_inf_l s t q (by omega))⟩
  by_cases h4 : q = INF
  · exact ⟨_, _, ⟨fun h => by omega, fun _ _ _ => by omega, fun _ _ => ⟨rfl, rfl⟩, fun _ _ => by omega⟩, Add_inf s t t r q (by omega) (by omega) (.inr h4) (by rw [h4]; exact add_inf_r t s r (by omega))⟩
  have hrI : r < INF := by omega
  have hqI : q < INF := by omega
  obtain ⟨sg, L, T, lo, hi, g1, g2, g3, g4⟩ := sum_all s t r q hrI hqI
  obtain ⟨u, z, k1, k2, _⟩ := add_fin s t r q hrI hqI
  exact ⟨_, _, ⟨fun h => by omega, fun _ _ _ => by omega, fun _ _ => by omega, fun _ _ => ⟨sg, lo, hi, g1, g2, rfl, rfl⟩⟩, Add_num s t u r q z L T _ _ 0 hrI hqI k2.1 k1 g3 g4⟩

-- the eight calls
end Go.Proofs.YtacnclofbnafiabGreatDoor
