import Derived.Test.YtacnclofbnafiaaR7
namespace Go.Proofs.Ytacnclofbnafiaa
open Go.RowKit Fl

theorem refDiv_nan (s t lower : Bool) (r q : Nat) (hr : r < 9223372036854775808) (hq : q < 9223372036854775808) (h : INF < r ∨ INF < q ∨ q = 0) (w : World) :
    Calls Try.prog 25 #[.float .f64 (W s r), .float .f64 (W t q), .bool lower] w
      fun e w' => e = .returned (.float .f64 (eiB lower (W true INF) (W false INF))) ∧ w' = w := by
  have i1 := inf_neg
  have i2 := inf_pos
  generalize W true INF = I1 at *
  generalize W false INF = I2 at *
  have z2 := order_zero t q hq
  by_cases h1 : INF < r
  · have n1 := ne_nan s r h1 hr
    clear h h1 z2
    go_enter Try.func25, Try.ntmps25
    go_wp2_with fail
    go_at_call 31
    refine (i1 _).mono ?_
    rintro e w1 ⟨rfl, rfl⟩
    go_wp2_with fail
    go_at_call 31
    refine (i2 _).mono ?_
    rintro e w1 ⟨rfl, rfl⟩
    go_wp2_with (go_at_call 88; refine (either_any _ _ _ _).mono ?_; rintro e w' ⟨rfl, rfl⟩)
    go_ret
    exact ⟨rfl, rfl⟩
  · have n1 := ne_num s r (by omega)
    by_cases h2 : INF < q
    · have n2 := ne_nan t q h2 hq
      clear h h1 h2 z2
      go_enter Try.func25, Try.ntmps25
      go_wp2_with fail
      go_at_call 31
      refine (i1 _).mono ?_
      rintro e w1 ⟨rfl, rfl⟩
      go_wp2_with fail
      go_at_call 31
      refine (i2 _).mono ?_
      rintro e w1 ⟨rfl, rfl⟩
      go_wp2_with (go_at_call 88; refine (either_any _ _ _ _).mono ?_; rintro e w' ⟨rfl, rfl⟩)
      go_ret
      exact ⟨rfl, rfl⟩
    · have n2 := ne_num t q (by omega)
      rw [decide_eq_true (by omega)] at z2
      clear h h1 h2
      go_enter Try.func25, Try.ntmps25
      go_wp2_with fail
      go_at_call 31
      refine (i1 _).mono ?_
      rintro e w1 ⟨rfl, rfl⟩
      go_wp2_with fail
      go_at_call 31
      refine (i2 _).mono ?_
      rintro e w1 ⟨rfl, rfl⟩
      go_wp2_with (go_at_call 88; refine (either_any _ _ _ _).mono ?_; rintro e w' ⟨rfl, rfl⟩)
      go_ret
      exact ⟨rfl, rfl⟩
theorem refDiv_infs (s t lower : Bool) (r q : Nat) (hr : r = INF) (hq : q = INF) (w : World) :
    Calls Try.prog 25 #[.float .f64 (W s r), .float .f64 (W t q), .bool lower] w
      fun e w' => e = .returned (.float .f64 (eiB lower (W true INF) (W false INF))) ∧ w' = w := by
  have i1 := inf_neg
  have i2 := inf_pos
  generalize W true INF = I1 at *
  generalize W false INF = I2 at *
  have r1 : r ≤ INF := by omega
  have q1 : q ≤ INF := by omega
  have n1 := ne_num s r r1
  have n2 := ne_num t q q1
  have z2 := order_ne_zero t q (by have := INF_pos; omega) (fin_lt q1)
  have d1 : decide (r = INF) = true := decide_eq_true hr
  have d2 : decide (q = INF) = true := decide_eq_true hq
  clear hr hq
  go_enter Try.func25, Try.ntmps25
  go_wp2_with (go_at_call 87; refine (inf_any _ _ (by assumption) _).mono ?_; rintro e w' ⟨rfl, rfl⟩)
  go_at_call 31
  refine (i1 _).mono ?_
  rintro e w1 ⟨rfl, rfl⟩
  go_wp2_with fail
  go_at_call 31
  refine (i2 _).mono ?_
  rintro e w1 ⟨rfl, rfl⟩
  go_wp2_with (go_at_call 88; refine (either_any _ _ _ _).mono ?_; rintro e w' ⟨rfl, rfl⟩)
  go_ret
  exact ⟨rfl, rfl⟩
theorem refDiv_infr (s t lower : Bool) (r q : Nat) (hr : r < INF) (hq : q = INF) (w : World) :
    Calls Try.prog 25 #[.float .f64 (W s r), .float .f64 (W t q), .bool lower] w
      fun e w' => e = .returned (.float .f64 0) ∧ w' = w := by
  have r1 : r ≤ INF := by omega
  have q1 : q ≤ INF := by omega
  have n1 := ne_num s r r1
  have n2 := ne_num t q q1
  have z2 := order_ne_zero t q (by have := INF_pos; omega) (fin_lt q1)
  have d1 : decide (r = INF) = false := decide_eq_false (by omega)
  have d2 : decide (q = INF) = true := decide_eq_true hq
  clear hr hq
  go_enter Try.func25, Try.ntmps25
  go_wp2_with (go_at_call 87; refine (inf_any _ _ (by assumption) _).mono ?_; rintro e w' ⟨rfl, rfl⟩)
  go_ret
  exact ⟨rfl, rfl⟩
theorem refDiv_infl (s t u lower : Bool) (r q : Nat) (hr : r = INF) (hq0 : 0 < q) (hq : q < INF) (ha : Ieee.double.div (W s r) (W t q) = some (W u INF)) (w : World) :
    Calls Try.prog 25 #[.float .f64 (W s r), .float .f64 (W t q), .bool lower] w
      fun e w' => e = .returned (.float .f64 (W u INF)) ∧ w' = w := by
  have hadd := fun t' w => run_float_arith (P := Try.prog) w .quo t' .f64 _ _ _ ha
  have r1 : r ≤ INF := by omega
  have q1 : q ≤ INF := by omega
  have n1 := ne_num s r r1
  have n2 := ne_num t q q1
  have z2 := order_ne_zero t q hq0 (fin_lt q1)
  have d1 : decide (r = INF) = true := decide_eq_true hr
  have d2 : decide (q = INF) = false := decide_eq_false (by omega)
  generalize W u INF = A at *
  clear hr hq ha
  go_enter Try.func25, Try.ntmps25
  go_wp2_with (go_at_call 87; refine (inf_any _ _ (by assumption) _).mono ?_; rintro e w' ⟨rfl, rfl⟩)
  go_ret
  exact ⟨rfl, rfl⟩
theorem refDiv_num (s t u lower : Bool) (r q z D P : Nat) (E : Int → Int) (hq0 : 0 < q) (r' : r < INF) (q' : q < INF) (hz : z ≤ INF) (H : RefIn 2 (W s r) (W t q) E D P) (ha : Ieee.double.div (W s r) (W t q) = some (W u z)) (w : World) :
    Calls Try.prog 25 #[.float .f64 (W s r), .float .f64 (W t q), .bool lower] w
      fun e w' => e = .returned (.float .f64 (eiB lower D P)) ∧ Below w.heap.size w w' := by
  have hadd := fun t' w => run_float_arith (P := Try.prog) w .quo t' .f64 _ _ _ ha
  have hrd := round_eq H lower u z hz
  have r1 := Nat.le_of_lt r'
  have q1 := Nat.le_of_lt q'
  have n1 := ne_num s r r1
  have n2 := ne_num t q q1
  have z2 := order_ne_zero t q hq0 (fin_lt q1)
  have d1 : decide (r = INF) = false := decide_eq_false (by omega)
  have d2 : decide (q = INF) = false := decide_eq_false (by omega)
  clear ha H hz r' q'
  go_enter Try.func25, Try.ntmps25
  go_wp2_with (first
    | (go_at_call 87; refine (inf_any _ _ (by assumption) _).mono ?_; rintro e w' ⟨rfl, rfl⟩)
    | (go_at_call 89; refine (hrd _).mono ?_; rintro e w1 ⟨rfl, hb⟩))
  go_ret
  exact ⟨rfl, hb⟩
theorem Side_over' (s t u : Bool) (r q z : Nat) (hr : r < INF) (hq : q < INF) (hq0 : 0 < q) (hz : z < INF) (w : World) :
    Calls Try.prog 55 #[.int .i64 2, .float .f64 (W s r), .float .f64 (W t q), .float .f64 (W u z)] w
      fun e w' => e = .returned (.int .i64 (Eo t (V s r * (U : Int)) (V t q) (V u z)).sign) ∧ Below w.heap.size w w' := by
  refine (Side_over s t u r q z hr hq hq0 hz w).mono ?_
  rintro e w' ⟨rfl, hb⟩
  refine ⟨ret_int ?_, hb⟩
  unfold Eo
  cases t
  · rfl
  · simp only [if_true]; rw [Int.sign_neg]
theorem refDiv_any (s t lower : Bool) (r q D P : Nat) (hr : r < 9223372036854775808) (hq : q < 9223372036854775808) (H : DivSpec s r t q D P) (w : World) :
    Calls Try.prog 25 #[.float .f64 (W s r), .float .f64 (W t q), .bool lower] w
      fun e w' => e = .returned (.float .f64 (eiB lower D P)) ∧ Below w.heap.size w w' := by
  have lift : ∀ {x}, Calls Try.prog 25 #[.float .f64 (W s r), .float .f64 (W t q), .bool lower] w (fun e w' => e = .returned (.float .f64 x) ∧ w' = w) → x = eiB lower D P →
      Calls Try.prog 25 #[.float .f64 (W s r), .float .f64 (W t q), .bool lower] w (fun e w' => e = .returned (.float .f64 (eiB lower D P)) ∧ Below w.heap.size w w') :=
    fun h hx => h.mono fun e w' ⟨he, hw⟩ => ⟨hx ▸ he, hw ▸ Below.refl _ _⟩
  have ei : ∀ x : Nat, x = eiB lower x x := fun x => by unfold eiB; split <;> rfl
  by_cases h0 : INF < r ∨ INF < q ∨ q = 0
  · obtain ⟨rfl, rfl⟩ := H.all (by omega)
    exact lift (refDiv_nan s t lower r q hr hq h0 w) rfl
  by_cases h1 : r = INF ∧ q = INF
  · obtain ⟨rfl, rfl⟩ := H.all (by omega)
    exact lift (refDiv_infs s t lower r q h1.1 h1.2 w) rfl
  by_cases h2 : q = INF
  · obtain ⟨rfl, rfl⟩ := H.inf_r (by omega) h2
    exact lift (refDiv_infr s t lower r q (by omega) h2 w) (ei _)
  by_cases h3 : r = INF
  · obtain ⟨rfl, rfl⟩ := H.inf_l h3 (by omega) (by omega)
    exact lift (refDiv_infl s t (s ^^ t) lower r q h3 (by omega) (by omega) (by rw [h3]; exact div_inf_l s t q (by omega)) w) (ei _)
  have hrI : r < INF := by omega
  have hqI : q < INF := by omega
  have hq0 : 0 < q := by omega
  obtain ⟨lo, hi, k2, rfl, rfl⟩ := H.num hq0 hrI hqI
  obtain ⟨z, g1, g2⟩ := div_fin s t r q hrI hqI hq0
  obtain ⟨o1, o2⟩ := lohi_ok (Eo_anti t _ q hq0) (link_o s t r q) k2
  exact refDiv_num s t _ lower r q z _ _ _ hq0 hrI hqI g2.1 ⟨Eo_anti t (V s r * (U : Int)) q hq0, fun s' z' hz' => Side_over' s t s' r q z' hrI hqI hq0 hz', o1, o2⟩ g1 w

-- Sqrt
theorem refSqrt_no (s lower : Bool) (r : Nat) (hr : r < 9223372036854775808) (h : INF < r ∨ (s = true ∧ 0 < r)) (w : World) :
    Calls Try.prog 26 #[.float .f64 (W s r), .bool lower] w
      fun e w' => e = .returned (.float .f64 (eiB lower 0 (W false INF))) ∧ w' = w := by
  have i2 := inf_pos
  generalize W false INF = I2 at *
  by_cases h1 : INF < r
  · have n1 := ne_nan s r h1 hr
    clear h h1
    go_enter Try.func26, Try.ntmps26
    go_wp2_with (first
      | (go_at_call 31; refine (i2 _).mono ?_; rintro e w' ⟨rfl, rfl⟩)
      | (go_at_call 88; refine (either_any _ _ _ _).mono ?_; rintro e w' ⟨rfl, rfl⟩))
    go_ret
    exact ⟨rfl, rfl⟩
  · have h2 := h.resolve_left h1
    have n1 := ne_num s r (by omega)
    have z := order_gt_zero s r h2.2 (by omega)
    rw [h2.1] at z n1 ⊢
    clear h h1 h2
    go_enter Try.func26, Try.ntmps26
    go_wp2_with (first
      | (go_at_call 31; refine (i2 _).mono ?_; rintro e w' ⟨rfl, rfl⟩)
      | (go_at_call 88; refine (either_any _ _ _ _).mono ?_; rintro e w' ⟨rfl, rfl⟩))
    go_ret
    exact ⟨rfl, rfl⟩
theorem refSqrt_inf (lower : Bool) (r : Nat) (hr : r = INF) (w : World) :
    Calls Try.prog 26 #[.float .f64 (W false r), .bool lower] w
      fun e w' => e = .returned (.float .f64 (W false r)) ∧ w' = w := by
  have r1 : r ≤ INF := by omega
  have n1 := ne_num false r r1
  have z := order_gt_zero false r (by have := INF_pos; omega) r1
  have d1 : decide (r = INF) = true := decide_eq_true hr
  clear hr
  go_enter Try.func26, Try.ntmps26
  go_wp2_with (go_at_call 87; refine (inf_any _ _ (by assumption) _).mono ?_; rintro e w' ⟨rfl, rfl⟩)
  go_ret
  exact ⟨rfl, rfl⟩
theorem refSqrt_num (s u lower : Bool) (r z D P : Nat) (E : Int → Int) (r' : r < INF) (hlt : (Ieee.double.order (W s r) 0 == some .lt) = false) (hz : z ≤ INF) (H : RefIn 3 (W s r) 0 E D P) (ha : Ieee.double.sqrt (W s r) = some (W u z)) (w : World) :
    Calls Try.prog 26 #[.float .f64 (W s r), .bool lower] w
      fun e w' => e = .returned (.float .f64 (eiB lower D P)) ∧ Below w.heap.size w w' := by
  have hsq := Sqrt_any _ _ ha
  have hrd := round_eq H lower u z hz
  have r1 := Nat.le_of_lt r'
  have n1 := ne_num s r r1
  have d1 : decide (r = INF) = false := decide_eq_false (by omega)
  clear ha H hz r'
  go_enter Try.func26, Try.ntmps26
  go_wp2_with (first
    | (go_at_call 87; refine (inf_any _ _ (by assumption) _).mono ?_; rintro e w' ⟨rfl, rfl⟩)
    | (go_at_call 28; refine (hsq _).mono ?_; rintro e w' ⟨rfl, rfl⟩)
    | (go_at_call 89; refine (hrd _).mono ?_; rintro e w1 ⟨rfl, hb⟩))
  go_ret
  exact ⟨rfl, hb⟩
theorem Side_root' (s u : Bool) (r z : Nat) (hr : r < INF) (hz : z < INF) (w : World) :
    Calls Try.prog 55 #[.int .i64 3, .float .f64 (W s r), .float .f64 0, .float .f64 (W u z)] w
      fun e w' => e = .returned (.int .i64 (Er (V s r * (U : Int)) (V u z)).sign) ∧ Below w.heap.size w w' := by
  by_cases h : u = true ∧ 0 < z
  · obtain ⟨rfl, h0⟩ := h
    have e : Er (V s r * (U : Int)) (V true z) = 1 := by unfold Er; rw [if_pos (V_neg h0)]
    rw [e]
    exact Side_root_neg z 0 (W s r) h0 hz w
  · have hv : ¬ V u z < 0 := by
      cases u
      · unfold V; simp
      · have : z = 0 := by
          rcases Nat.eq_zero_or_pos z with g | g
          · exact g
          · exact absurd ⟨rfl, g⟩ h
        rw [this, V_zero]; omega
    have e : Er (V s r * (U : Int)) (V u z) = V s r * (U : Int) - V u z * V u z := by unfold Er; rw [if_neg hv]
    rw [e]
    refine Side_root s u r z 0 hr hz (fun hu => ?_) w
    rcases Nat.eq_zero_or_pos z with g | g
    · exact g
    · exact absurd ⟨hu, g⟩ h
theorem refSqrt_any (s lower : Bool) (r D P : Nat) (hr : r < 9223372036854775808) (H : SqrtSpec s r D P) (w : World) :
    Calls Try.prog 26 #[.float .f64 (W s r), .bool lower] w
      fun e w' => e = .returned (.float .f64 (eiB lower D P)) ∧ Below w.heap.size w w' := by
  have lift : ∀ {x}, Calls Try.prog 26 #[.float .f64 (W s r), .bool lower] w (fun e w' => e = .returned (.float .f64 x) ∧ w' = w) → x = eiB lower D P →
      Calls Try.prog 26 #[.float .f64 (W s r), .bool lower] w (fun e w' => e = .returned (.float .f64 (eiB lower D P)) ∧ Below w.heap.size w w') :=
    fun h hx => h.mono fun e w' ⟨he, hw⟩ => ⟨hx ▸ he, hw ▸ Below.refl _ _⟩
  have ei : ∀ x : Nat, x = eiB lower x x := fun x => by unfold eiB; split <;> rfl
  by_cases h0 : INF < r ∨ (s = true ∧ 0 < r)
  · obtain ⟨rfl, rfl⟩ := H.no h0
    exact lift (refSqrt_no s lower r hr h0 w) rfl
  by_cases h1 : r = 0
  · obtain ⟨rfl, rfl⟩ := H.zero h1
    subst h1
    have hI := INF_pos
    have e0 : pw false 0 = 0 := by unfold pw; rw [if_pos rfl]
    have hE0 : Er (V s 0 * (U : Int)) (V false 0) = 0 := by unfold Er; rw [V_zero, V_zero]; simp
    have o1 : DownOk (Er (V s 0 * (U : Int))) 0 := by
      right
      refine ⟨false, 0, e0.symm, hI, by omega, .inr ?_⟩
      refine (Er_anti _).neg (a := V false 0) (ix_val.1 ?_) (by omega)
      rw [ix_abv]; omega
    have o2 : UpOk (Er (V s 0 * (U : Int))) 0 := by
      have := up_same (Er_anti _) false 0 hI hE0
      rwa [e0] at this
    exact refSqrt_num s s lower 0 0 _ _ _ hI (by rw [order_zero_zero]; rfl) (Nat.zero_le _) ⟨Er_anti _, fun s' z' hz' => Side_root' s s' 0 z' hI hz', o1, o2⟩ (sqrt_zero s) w
  have hs : s = false := by
    cases s with
    | false => rfl
    | true => exfalso; exact h0 (.inr ⟨rfl, by omega⟩)
  subst hs
  by_cases h2 : r = INF
  · obtain ⟨rfl, rfl⟩ := H.inf rfl h2
    exact lift (refSqrt_inf lower r h2 w) (by rw [h2]; exact ei _)
  have hrI : r < INF := by omega
  obtain ⟨lo, hi, k2, hD, hP⟩ := H.num rfl (by omega) hrI
  obtain ⟨z, g1, g2⟩ := sqrt_fin r hrI (by omega)
  obtain ⟨o1, o2⟩ := lohi_ok (Er_anti _) (link_r r) k2
  have eD : dnW false lo hi = D := hD.symm
  have eP : upW false lo hi = P := hP.symm
  rw [eD] at o1
  rw [eP] at o2
  exact refSqrt_num false false lower r z _ _ _ hrI (order_gt_zero false r (by omega) (Nat.le_of_lt hrI)) g2.1 ⟨Er_anti _, fun s' z' hz' => Side_root' false s' r z' hrI hz', o1, o2⟩ g1 w
theorem same_any (x : Nat) (hx : Ieee.double.order x x = some .eq) (w : World) :
    Calls Try.prog 27 #[.float .f64 x, .float .f64 x] w fun e w' => e = .returned (.bool true) ∧ w' = w := by
  have h : (Ieee.double.order x x == some .eq) = true := by rw [hx]; rfl
  clear hx
  go_enter Try.func27, Try.ntmps27
  go_wp2
  go_ret
  exact ⟨rfl, rfl⟩
end Go.Proofs.Ytacnclofbnafiaa
