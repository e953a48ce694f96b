import Derived.Test.YtacnclofbnafiaaW8
namespace Go.Proofs.Ytacnclofbnafiaa
open Go.RowKit Fl

/-- What Sqrt answers. -/
structure SqrtSpec (s : Bool) (r D P : Nat) : Prop where
  no : INF < r ∨ (s = true ∧ 0 < r) → D = 0 ∧ P = W false INF
  zero : r = 0 → D = 0 ∧ P = 0
  inf : s = false → r = INF → D = W false INF ∧ P = W false INF
  num : s = false → 0 < r → r < INF → ∃ lo hi, LoHi (Sq (M r * U)) lo hi ∧ D = pw false lo ∧ P = pw false hi

theorem Sqrt_no (s : Bool) (r : Nat) (hr : r < 9223372036854775808) (h : INF < r ∨ (s = true ∧ 0 < r)) (w : World) :
    Calls Try.prog 86 #[.float .f64 (W s r)] w
      fun e w' => e = .returned (.tuple #[.float .f64 0, .float .f64 (W false INF)]) ∧ w' = w := by
  by_cases h1 : INF < r
  · have g1 := decide_eq_true h1
    clear h h1
    go_enter Try.func86, Try.ntmps86
    go_wp2_with (first
      | (go_at_call 92; refine (isNaN_gen _ _ (by assumption) _).mono ?_; rintro e w' ⟨rfl, rfl⟩)
      | (go_at_call 31; refine (inf_pos _).mono ?_; rintro e w' ⟨rfl, rfl⟩))
    go_ret2
    exact ⟨rfl, rfl⟩
  · have h2 : s = true ∧ 0 < r := h.resolve_left h1
    have g1 := decide_eq_false h1
    have z := order_gt_zero s r h2.2 (by omega)
    rw [h2.1] at z ⊢
    clear h h1 h2
    go_enter Try.func86, Try.ntmps86
    go_wp2_with (first
      | (go_at_call 92; refine (isNaN_gen _ _ (by assumption) _).mono ?_; rintro e w' ⟨rfl, rfl⟩)
      | (go_at_call 31; refine (inf_pos _).mono ?_; rintro e w' ⟨rfl, rfl⟩))
    go_ret2
    exact ⟨rfl, rfl⟩
theorem Sqrt_inf (r : Nat) (h : r = INF) (w : World) :
    Calls Try.prog 86 #[.float .f64 (W false r)] w
      fun e w' => e = .returned (.tuple #[.float .f64 (W false r), .float .f64 (W false r)]) ∧ w' = w := by
  have hr := fin_lt (Nat.le_of_eq h)
  have g1 : decide (INF < r) = false := decide_eq_false (by omega)
  have i1 : decide (r = INF) = true := decide_eq_true h
  have z := order_gt_zero false r (by have := INF_pos; omega) (by omega)
  clear h
  go_enter Try.func86, Try.ntmps86
  go_wp2_with (first
    | (go_at_call 92; refine (isNaN_gen _ _ (by assumption) _).mono ?_; rintro e w' ⟨rfl, rfl⟩)
    | (go_at_call 29; refine (isInf1 _ (by assumption) _).mono ?_; rintro e w' ⟨rfl, rfl⟩))
  go_ret2
  exact ⟨rfl, rfl⟩
theorem isInf1' (s : Bool) (r : Nat) (hr : r < INF) (w : World) :
    Calls Try.prog 29 #[.float .f64 (W s r), .int .i64 1] w fun e w' => e = .returned (.bool false) ∧ w' = w := by
  have h : (Ieee.double.order (W s r) 9218868437227405311 == some .gt) = false := order_max_no s r hr
  go_enter Try.func29, Try.ntmps29
  go_wp2
  go_ret
  exact ⟨rfl, rfl⟩
theorem Sqrt_num (s : Bool) (r L T D P : Nat) (n : Int) (hr : r < INF) (hz : (Ieee.double.order (W s r) 0 == some .lt) = false)
    (hp : ∀ w, Calls Try.prog 134 #[.float .f64 (W s r)] w
      fun e w' => e = .returned (.agg #[.float .f64 L, .float .f64 T, .int .i64 n]) ∧ Below w.heap.size w w')
    (hb : ∀ w, Calls Try.prog 131 #[.agg #[.float .f64 L, .float .f64 T, .int .i64 n]] w
      fun e w' => e = .returned (.tuple #[.float .f64 D, .float .f64 P]) ∧ Below w.heap.size w w') (w : World) :
    Calls Try.prog 86 #[.float .f64 (W s r)] w
      fun e w' => e = .returned (.tuple #[.float .f64 D, .float .f64 P]) ∧ Below w.heap.size w w' := by
  have hr' := fin_lt (Nat.le_of_lt hr)
  have g1 : decide (INF < r) = false := decide_eq_false (by omega)
  have i1 := isInf1' s r hr
  clear hr
  go_enter Try.func86, Try.ntmps86
  go_wp2_with (first
    | (go_at_call 92; refine (isNaN_gen _ _ (by assumption) _).mono ?_; rintro e w' ⟨rfl, rfl⟩)
    | (go_at_call 29; refine (i1 _).mono ?_; rintro e w' ⟨rfl, rfl⟩)
    | (go_at_call 134; refine (hp _).mono ?_; rintro e w1 ⟨rfl, hb1⟩)
    | (go_at_call 131; refine (hb _).mono ?_; rintro e w2 ⟨rfl, hb2⟩))
  go_ret2
  exact ⟨rfl, hb1.trans (hb2.mono hb1.size)⟩
set_option maxHeartbeats 400000 in
theorem rootOf_zero (s u : Bool) (hT : Ieee.double.fma (W (!s) 0) (W s 0) (W s 0) = some (W u 0)) (w : World) :
    Calls Try.prog 134 #[.float .f64 (W s 0)] w
      fun e w' => e = .returned (.agg #[.float .f64 (W s 0), .float .f64 (W u 0), .int .i64 0]) ∧ Below w.heap.size w w' := by
  have hfma := fma_run _ _ _ _ hT
  have hneg := unary_negF s 0 (by omega)
  have hsq := Sqrt_any _ _ (sqrt_zero s)
  have hf := Frexp_zero s
  clear hT
  go_enter Try.func134, Try.ntmps134
  go_wp2_with (first
    | (go_at_call 166; refine (hf _).mono ?_; rintro e w' ⟨rfl, rfl⟩)
    | (go_at_call 28; refine (hsq _).mono ?_; rintro e w' ⟨rfl, rfl⟩))
  exact bodyPost_ret (v := .agg #[.float .f64 (W s 0), .float .f64 (W u 0), .int .i64 0]) (by simp [results, Try.results134, go_sem]) rfl ⟨rfl, (Below.refl _ _).alloc (Nat.le_refl _) _⟩
theorem LoHi_zero {C : Nat → Int} (hC : Anti C) (h0 : C 0 = 0) {lo hi : Nat} (h : LoHi C lo hi) : lo = 0 ∧ hi = 0 := by
  constructor
  · rcases Nat.eq_zero_or_pos lo with e | e
    · exact e
    · have := hC.neg (M_pos e) (by omega : C 0 ≤ 0); have := h.lo_ok; omega
  · rcases Nat.eq_zero_or_pos hi with e | e
    · exact e
    · have h1 := h.hi_prev e
      rcases Nat.eq_zero_or_pos (hi - 1) with e' | e'
      · rw [e', M_zero] at h1; omega
      · have := hC.neg (M_pos e') (by omega : C 0 ≤ 0); omega
theorem Sqrt_all (s : Bool) (r : Nat) (hr : r < 9223372036854775808) :
    ∃ D P, SqrtSpec s r D P ∧ ∀ w, Calls Try.prog 86 #[.float .f64 (W s r)] w
      fun e w' => e = .returned (.tuple #[.float .f64 D, .float .f64 P]) ∧ Below w.heap.size w w' := by
  have hIp := INF_pos
  by_cases h1 : INF < r ∨ (s = true ∧ 0 < r)
  · refine ⟨_, _, ⟨fun _ => ⟨rfl, rfl⟩, fun _ => by omega, fun hs _ => ?_, fun hs _ _ => ?_⟩, fun w => (Sqrt_no s r hr h1 w).mono fun e w' ⟨he, hw⟩ => ⟨he, hw ▸ Below.refl _ _⟩⟩
    · rcases h1 with h | h
      · omega
      · rw [hs] at h; simp at h
    · rcases h1 with h | h
      · omega
      · rw [hs] at h; simp at h
  by_cases h2 : r = 0
  · subst h2
    obtain ⟨u, z, hf, hF, hS⟩ := fma_fin (!s) s s 0 0 0 hIp hIp hIp
    have hz0 : z = 0 := by
      rw [V_zero, V_zero, Int.zero_mul, Int.zero_mul] at hF
      exact hF.exact (Nat.zero_le _) (by unfold Rt; rw [M_zero]; simp)
    subst hz0
    obtain ⟨lo, hi, hLH, hB⟩ := bounds_zero s u 0 (Sq 0) (by omega) (by omega) (Sq_anti _) (by unfold Sq; simp)
    obtain ⟨rfl, rfl⟩ := LoHi_zero (Sq_anti _) (by unfold Sq; simp) hLH
    have d0 : dnW s 0 0 = 0 := by unfold dnW pw; cases s <;> rfl
    have u0 : upW s 0 0 = 0 := by unfold upW pw; cases s <;> rfl
    rw [d0, u0] at hB
    have hz : (Ieee.double.order (W s 0) 0 == some .lt) = false := by rw [order_zero_zero]; rfl
    exact ⟨0, 0, ⟨fun _ => by omega, fun _ => ⟨rfl, rfl⟩, fun _ _ => by omega, fun _ _ => by omega⟩, Sqrt_num s 0 _ _ _ _ _ hIp hz (rootOf_zero s u hf) hB⟩
  have hs : s = false := by
    cases s with
    | false => rfl
    | true => exfalso; exact h1 (.inr ⟨rfl, by omega⟩)
  subst hs
  by_cases h3 : r = INF
  · exact ⟨_, _, ⟨fun h => by simp at h; omega, fun _ => by omega, fun _ _ => by rw [h3]; exact ⟨rfl, rfl⟩, fun _ _ _ => by omega⟩, fun w => (Sqrt_inf r h3 w).mono fun e w' ⟨he, hw⟩ => ⟨he, hw ▸ Below.refl _ _⟩⟩
  have hr0 : 0 < r := by omega
  have hrI : r < INF := by omega
  obtain ⟨b1, b2⟩ := fe_bd r hr0 hrI
  obtain ⟨l, hm, hl⟩ := sqrt_fin (rr r) (rr_lt r) (rr_pos r)
  obtain ⟨H, hbig, _⟩ := root_scaled r l hr0 hl
  have hlI : l < INF := by have := H.top; omega
  obtain ⟨sg, z, hf, hF, hS⟩ := fma_fin true false false l l (rr r) hlI hlI (rr_lt r)
  obtain ⟨e1, e2⟩ := root_tail r l hbig _ rfl
  obtain ⟨u1, u2⟩ := unit_pos hF e2
  have o1 := order_self sg z hF.1
  have o2 := tail_order sg z _ hF.1 u1 u2 hS
  have e1' : V true l * V false l + V false (rr r) * (U : Int) = if false then -(Sq (M (rr r) * U) (M l)) else Sq (M (rr r) * U) (M l) := e1
  obtain ⟨lo, hi, hLH, hB⟩ := bounds_scaled false l (W sg z) (rn r) _ _ _ H (by unfold rn; omega) (by unfold rn; omega) o1 o2
    (cmp_pos e1') (cmp_neg e1') (cmp_zero e1')
  have hk : (fe r % 2 = 0 ∧ W false (rr r) = W false (frR r) ∧ rn r = fe r / 2) ∨ (fe r % 2 ≠ 0 ∧ Ieee.double.mul 4611686018427387904 (W false (frR r)) = some (W false (rr r)) ∧ rn r = (fe r - 1) / 2) := by
    by_cases hev : fe r % 2 = 0
    · left
      exact ⟨hev, by unfold rr; rw [if_pos hev], rfl⟩
    · right
      refine ⟨hev, ?_, by unfold rn; omega⟩
      have : rr r = frR r + 4503599627370496 := by unfold rr; rw [if_neg hev]
      rw [this]
      refine mul_two (frR r) (by unfold frR; omega) ?_
      rw [← this]; exact rr_lt r
  exact ⟨_, _, ⟨fun h => by simp at h; omega, fun _ => by omega, fun _ _ => by omega, fun _ _ _ => ⟨lo, hi, hLH, rfl, rfl⟩⟩,
    Sqrt_num false r _ _ _ _ _ hrI (order_gt_zero false r hr0 (Nat.le_of_lt hrI)) (rootOf_walk _ _ l _ _ _ b1 b2 (frexpR false r hr0 hrI) _ hk (Nat.le_of_lt hlI) hm hf) hB⟩
end Go.Proofs.Ytacnclofbnafiaa
