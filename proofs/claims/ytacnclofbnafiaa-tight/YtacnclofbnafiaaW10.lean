import Derived.Test.YtacnclofbnafiaaW9
import Derived.Test.YtacnclofbnafiaaFA
namespace Go.Proofs.Ytacnclofbnafiaa
open Go.RowKit Fl

set_option maxHeartbeats 400000 in
/-- SUMOF, the greater one first. -/
theorem sumOf_keep (s t sg : Bool) (r q l d T : Nat) (hr : r < INF) (hq : q < INF) (hqr : q ≤ r)
    (h1 : Ieee.double.add (W s r) (W t q) = some (W sg l)) (h2 : Ieee.double.sub (W sg l) (W s r) = some d) (h3 : Ieee.double.sub (W t q) d = some T) (w : World) :
    Calls Try.prog 130 #[.float .f64 (W s r), .float .f64 (W t q)] w
      fun e w' => e = .returned (.agg #[.float .f64 (W sg l), .float .f64 T, .int .i64 0]) ∧ Below w.heap.size w w' := by
  have hr' := fin_lt (Nat.le_of_lt hr)
  have hq' := fin_lt (Nat.le_of_lt hq)
  have ho := order_lt_pos r q hr hq
  rw [decide_eq_false (by omega)] at ho
  have a1 := fun t' w => run_float_arith (P := Try.prog) w .add t' .f64 _ _ _ h1
  have a2 := fun t' w => run_float_arith (P := Try.prog) w .sub t' .f64 _ _ _ h2
  have a3 := fun t' w => run_float_arith (P := Try.prog) w .sub t' .f64 _ _ _ h3
  clear h1 h2 h3 hr hq hqr
  go_enter Try.func130, Try.ntmps130
  go_wp2_with (go_at_call 53; refine (abs_any _ _ (by assumption) _).mono ?_; rintro e w' ⟨rfl, rfl⟩)
  exact bodyPost_ret (v := .agg #[.float .f64 (W sg l), .float .f64 T, .int .i64 0]) (by simp [results, Try.results130, go_sem]) rfl ⟨rfl, (Below.refl _ _).alloc (Nat.le_refl _) _⟩
set_option maxHeartbeats 400000 in
theorem sumOf_swap (s t sg : Bool) (r q l d T : Nat) (hr : r < INF) (hq : q < INF) (hqr : r < q)
    (h1 : Ieee.double.add (W t q) (W s r) = some (W sg l)) (h2 : Ieee.double.sub (W sg l) (W t q) = some d) (h3 : Ieee.double.sub (W s r) d = some T) (w : World) :
    Calls Try.prog 130 #[.float .f64 (W s r), .float .f64 (W t q)] w
      fun e w' => e = .returned (.agg #[.float .f64 (W sg l), .float .f64 T, .int .i64 0]) ∧ Below w.heap.size w w' := by
  have hr' := fin_lt (Nat.le_of_lt hr)
  have hq' := fin_lt (Nat.le_of_lt hq)
  have ho := order_lt_pos r q hr hq
  rw [decide_eq_true hqr] at ho
  have a1 := fun t' w => run_float_arith (P := Try.prog) w .add t' .f64 _ _ _ h1
  have a2 := fun t' w => run_float_arith (P := Try.prog) w .sub t' .f64 _ _ _ h2
  have a3 := fun t' w => run_float_arith (P := Try.prog) w .sub t' .f64 _ _ _ h3
  clear h1 h2 h3 hr hq hqr
  go_enter Try.func130, Try.ntmps130
  go_wp2_with (go_at_call 53; refine (abs_any _ _ (by assumption) _).mono ?_; rintro e w' ⟨rfl, rfl⟩)
  exact bodyPost_ret (v := .agg #[.float .f64 (W sg l), .float .f64 T, .int .i64 0]) (by simp [results, Try.results130, go_sem]) rfl ⟨rfl, (Below.refl _ _).alloc (Nat.le_refl _) _⟩
theorem LdOk_zero {l z : Nat} (hl : l ≤ INF) (h : LdOk l 0 z) : z = l :=
  h.exact hl (by unfold Rt; simp)
theorem Ldexp_same (s : Bool) (l : Nat) (hl : l ≤ INF) (w : World) :
    Calls Try.prog 79 #[.float .f64 (W s l), .int .i64 0] w fun e w' => e = .returned (.float .f64 (W s l)) ∧ w' = w := by
  rcases Nat.lt_or_eq_of_le hl with h | h
  · rcases Nat.eq_zero_or_pos l with e | e
    · subst e; exact Ldexp_zero s 0 w
    · obtain ⟨z, hz, hc⟩ := Ldexp_any s l 0 e h (by omega) (by omega)
      rw [LdOk_zero hl hz] at hc
      exact hc w
  · subst h; exact Ldexp_inf s 0 w
/-- The sum's bounds. -/
theorem bounds_sum (sg : Bool) (l T : Nat) (E : Int) (hl : Faith (Rt E.natAbs 1) l) (hs : SgnOk sg E) (hT : Ieee.double.order T T = some .eq)
    (hT0 : (l < INF ∧ Ieee.double.order T 0 = some (compare (E - V sg l) 0)) ∨ (l = INF ∧ Ieee.double.order T 0 = some (if sg then .gt else .lt))) :
    ∃ lo hi, LoHi (Rt E.natAbs 1) lo hi ∧ ∀ w, Calls Try.prog 131 #[.agg #[.float .f64 (W sg l), .float .f64 T, .int .i64 0]] w
      fun e w' => e = .returned (.tuple #[.float .f64 (dnW sg lo hi), .float .f64 (upW sg lo hi)]) ∧ Below w.heap.size w w' := by
  have hx := Ldexp_same sg l hl.1
  have oL := order_self sg l hl.1
  have h0 : (0 : Int) ≤ Rt E.natAbs 1 0 := by unfold Rt; omega
  rcases hT0 with ⟨hlI, ho⟩ | ⟨hlI, ho⟩
  · have hsd := side_eq (W sg l) T (W sg l) (W sg l) 0 _ (by omega) (by omega) hx oL oL oL hT ho order_00
    have hE : l ≠ 0 → E - V sg l = if sg then -(Rt E.natAbs 1 (M l)) else Rt E.natAbs 1 (M l) := by
      intro hl0
      have hne : E ≠ 0 := by
        rintro rfl
        exact hl0 (hl.exact (Nat.zero_le _) (by unfold Rt; rw [M_zero]; simp))
      unfold Rt V
      rcases Int.lt_trichotomy E 0 with h | h | h
      · rw [hs.1 h]; simp; omega
      · omega
      · rw [hs.2 h]; simp; omega
    have hE0 : l = 0 → E - V sg l = if sg then -(Rt E.natAbs 1 (M l)) else Rt E.natAbs 1 (M l) := by
      intro hl0
      subst hl0
      rw [V_zero, M_zero]
      unfold Rt
      rcases Int.lt_trichotomy E 0 with h | h | h
      · rw [hs.1 h]; simp; omega
      · subst h; cases sg <;> simp
      · rw [hs.2 h]; simp; omega
    have hE' : E - V sg l = if sg then -(Rt E.natAbs 1 (M l)) else Rt E.natAbs 1 (M l) := by
      by_cases e : l = 0
      · exact hE0 e
      · exact hE e
    exact bounds_near sg (W sg l) T l 0 _ _ hx hsd hl h0 _ rfl (fun e => by omega) (fun _ h => cmp_pos hE' h) (fun _ h => cmp_neg hE' h)
      (fun _ h => cmp_zero hE' (by cases sg <;> simp at h <;> omega))
  · have hsd := side_eq (W sg l) T (W sg l) (W sg l) 0 _ (by omega) (by omega) hx oL oL oL hT ho order_00
    exact bounds_near sg (W sg l) T l 0 _ _ hx hsd hl h0 (-1) (by cases sg <;> rfl) (fun _ => by omega) (fun _ h => by omega) (fun h => by omega) (fun _ h => by omega)
theorem sum_all (s t : Bool) (r q : Nat) (hr : r < INF) (hq : q < INF) :
    ∃ sg L T lo hi, SgnOk sg (V s r + V t q) ∧ LoHi (Rt (V s r + V t q).natAbs 1) lo hi
      ∧ (∀ w, Calls Try.prog 130 #[.float .f64 (W s r), .float .f64 (W t q)] w
        fun e w' => e = .returned (.agg #[.float .f64 L, .float .f64 T, .int .i64 0]) ∧ Below w.heap.size w w')
      ∧ (∀ w, Calls Try.prog 131 #[.agg #[.float .f64 L, .float .f64 T, .int .i64 0]] w
        fun e w' => e = .returned (.tuple #[.float .f64 (dnW sg lo hi), .float .f64 (upW sg lo hi)]) ∧ Below w.heap.size w w') := by
  by_cases h : q ≤ r
  · obtain ⟨sg, l, T, h1, h2, h3, ⟨d, h4, h5⟩, h6, h7⟩ := fast_sum s t r q h hr hq
    obtain ⟨lo, hi, hLH, hB⟩ := bounds_sum sg l T _ h2 h3 h6 h7
    exact ⟨sg, _, T, lo, hi, h3, hLH, sumOf_keep s t sg r q l d T hr hq h h1 h4 h5, hB⟩
  · obtain ⟨sg, l, T, h1, h2, h3, ⟨d, h4, h5⟩, h6, h7⟩ := fast_sum t s q r (by omega) hq hr
    rw [Int.add_comm] at h2 h3 h7
    obtain ⟨lo, hi, hLH, hB⟩ := bounds_sum sg l T _ h2 h3 h6 h7
    exact ⟨sg, _, T, lo, hi, h3, hLH, sumOf_swap s t sg r q l d T hr hq (by omega) h1 h4 h5, hB⟩
/-- What Add answers. -/
structure AddSpec (s : Bool) (r : Nat) (t : Bool) (q D P : Nat) : Prop where
  all : INF < r ∨ INF < q ∨ (r = INF ∧ q = INF ∧ s ≠ t) → D = W true INF ∧ P = W false INF
  inf_l : r = INF → q ≤ INF → (q = INF → s = t) → D = W s INF ∧ P = W s INF
  inf_r : r < INF → q = INF → D = W t INF ∧ P = W t INF
  num : r < INF → q < INF → ∃ sg lo hi, SgnOk sg (V s r + V t q) ∧ LoHi (Rt (V s r + V t q).natAbs 1) lo hi ∧ D = dnW sg lo hi ∧ P = upW sg lo hi
/-- A NaN out of an operation: which one, the tape says. -/
theorem nan_cut (t : Nat) : ∃ s r, INF < r ∧ r < 9223372036854775808 ∧ t % 2 * 2 ^ 63 + 0x7ff0000000000000 + 1 + (t / 2) % (2 ^ 52 - 1) = W s r := by
  have h1 : (t / 2) % (2 ^ 52 - 1) < 2 ^ 52 - 1 := Nat.mod_lt _ (by decide)
  rw [show (2 ^ 52 - 1 : Nat) = 4503599627370495 by decide] at h1 ⊢
  generalize (t / 2) % 4503599627370495 = u at h1 ⊢
  refine ⟨decide (t % 2 = 1), 9218868437227405312 + 1 + u, by rw [INF_eq]; omega, by omega, ?_⟩
  rw [show (2 ^ 63 : Nat) = 9223372036854775808 by decide, show (0x7ff0000000000000 : Nat) = 9218868437227405312 by decide]
  unfold W
  rcases Nat.mod_two_eq_zero_or_one t with h | h
  · rw [h]; simp
  · rw [h]; simp; omega
theorem run_add_nan (x y : Nat) (h : Ieee.double.add x y = none) (w : World) : ∃ s r, INF < r ∧ r < 9223372036854775808 ∧
    ∀ t', (binOp .add t' (.float .f64 x) (.float .f64 y)).run Try.prog w = .ok (.float .f64 (W s r)) w.drew := by
  obtain ⟨s, r, h1, h2, h3⟩ := nan_cut (w.tape w.drawn (.nanBits .f64 x y))
  refine ⟨s, r, h1, h2, fun t' => ?_⟩
  have h' : FloatKind.f64.format.add x y = none := h
  rw [← h3]
  simp [binOp, Op.floatArith, h', choose, Sem.run, Question.forced, Question.cut]
theorem Add_nan (s t : Bool) (r q : Nat) (h : Ieee.double.add (W s r) (W t q) = none) (w : World) :
    Calls Try.prog 83 #[.float .f64 (W s r), .float .f64 (W t q)] w
      fun e w' => e = .returned (.tuple #[.float .f64 (W true INF), .float .f64 (W false INF)]) ∧ Below w.heap.size w w' := by
  obtain ⟨u, v, h1, h2, h3⟩ := run_add_nan _ _ h w
  have g1 := decide_eq_true h1
  clear h h1
  go_enter Try.func83, Try.ntmps83
  go_wp2_with (first
    | (go_at_call 92; refine (isNaN_gen _ _ (by assumption) _).mono ?_; rintro e w' ⟨rfl, rfl⟩)
    | (go_at_call 129; refine (all_any _).mono ?_; rintro e w' ⟨rfl, rfl⟩))
  go_ret2
  exact ⟨rfl, (Below.refl _ _).drew⟩
theorem Add_inf (s t u : Bool) (r q : Nat) (hr : r ≤ INF) (hq : q ≤ INF) (hi : r = INF ∨ q = INF) (h : Ieee.double.add (W s r) (W t q) = some (W u INF)) (w : World) :
    Calls Try.prog 83 #[.float .f64 (W s r), .float .f64 (W t q)] w
      fun e w' => e = .returned (.tuple #[.float .f64 (W u INF), .float .f64 (W u INF)]) ∧ Below w.heap.size w w' := by
  have hr' := fin_lt hr
  have hq' := fin_lt hq
  have a1 := fun t' w => run_float_arith (P := Try.prog) w .add t' .f64 _ _ _ h
  obtain ⟨I, hI⟩ : ∃ I, I = INF := ⟨_, rfl⟩
  have g : decide (INF < I) = false := decide_eq_false (by omega)
  have hI' := fin_lt (Nat.le_of_eq hI)
  rw [← hI] at a1 ⊢
  clear h
  by_cases h1 : r = INF
  · have i1 := decide_eq_true h1
    clear hi h1 hI hr hq
    go_enter Try.func83, Try.ntmps83
    go_wp2_with (first
      | (go_at_call 92; refine (isNaN_gen _ _ (by assumption) _).mono ?_; rintro e w' ⟨rfl, rfl⟩)
      | (go_at_call 29; refine (isInf0 _ _ (by assumption) _).mono ?_; rintro e w' ⟨rfl, rfl⟩))
    go_ret2
    exact ⟨rfl, Below.refl _ _⟩
  · have i1 := decide_eq_false h1
    have i2 : decide (q = INF) = true := decide_eq_true (by omega)
    clear hi h1 hI hr hq
    go_enter Try.func83, Try.ntmps83
    go_wp2_with (first
      | (go_at_call 92; refine (isNaN_gen _ _ (by assumption) _).mono ?_; rintro e w' ⟨rfl, rfl⟩)
      | (go_at_call 29; refine (isInf0 _ _ (by assumption) _).mono ?_; rintro e w' ⟨rfl, rfl⟩))
    go_ret2
    exact ⟨rfl, Below.refl _ _⟩
theorem Add_num (s t u : Bool) (r q z L T D P : Nat) (n : Int) (hr : r < INF) (hq : q < INF) (hz : z ≤ INF) (h : Ieee.double.add (W s r) (W t q) = some (W u z))
    (hp : ∀ w, Calls Try.prog 130 #[.float .f64 (W s r), .float .f64 (W t q)] w
      fun e w' => e = .returned (.agg #[.float .f64 L, .float .f64 T, .int .i64 n]) ∧ Below w.heap.size w w')
    (hb : ∀ w, Calls Try.prog 131 #[.agg #[.float .f64 L, .float .f64 T, .int .i64 n]] w
      fun e w' => e = .returned (.tuple #[.float .f64 D, .float .f64 P]) ∧ Below w.heap.size w w') (w : World) :
    Calls Try.prog 83 #[.float .f64 (W s r), .float .f64 (W t q)] w
      fun e w' => e = .returned (.tuple #[.float .f64 D, .float .f64 P]) ∧ Below w.heap.size w w' := by
  have hr' := fin_lt (Nat.le_of_lt hr)
  have hq' := fin_lt (Nat.le_of_lt hq)
  have hz' := fin_lt hz
  have a1 := fun t' w => run_float_arith (P := Try.prog) w .add t' .f64 _ _ _ h
  have g : decide (INF < z) = false := decide_eq_false (by omega)
  have i1 : decide (r = INF) = false := decide_eq_false (by omega)
  have i2 : decide (q = INF) = false := decide_eq_false (by omega)
  clear h hr hq hz
  go_enter Try.func83, Try.ntmps83
  go_wp2_with (first
    | (go_at_call 92; refine (isNaN_gen _ _ (by assumption) _).mono ?_; rintro e w' ⟨rfl, rfl⟩)
    | (go_at_call 29; refine (isInf0 _ _ (by assumption) _).mono ?_; rintro e w' ⟨rfl, rfl⟩)
    | (go_at_call 130; refine (hp _).mono ?_; rintro e w1 ⟨rfl, hb1⟩)
    | (go_at_call 131; refine (hb _).mono ?_; rintro e w2 ⟨rfl, hb2⟩))
  go_ret2
  exact ⟨rfl, hb1.trans (hb2.mono hb1.size)⟩
theorem Add_any (s t : Bool) (r q : Nat) (hr : r < 9223372036854775808) (hq : q < 9223372036854775808) :
    ∃ D P, AddSpec s r t q D P ∧ ∀ w, Calls Try.prog 83 #[.float .f64 (W s r), .float .f64 (W t q)] w
      fun e w' => e = .returned (.tuple #[.float .f64 D, .float .f64 P]) ∧ Below w.heap.size w w' := by
  by_cases h1 : INF < r
  · exact ⟨_, _, ⟨fun _ => ⟨rfl, rfl⟩, fun _ _ => by omega, fun _ _ => by omega, fun _ _ => by omega⟩, Add_nan s t r q (add_nan_l s r _ h1 hr)⟩
  by_cases h2 : INF < q
  · exact ⟨_, _, ⟨fun _ => ⟨rfl, rfl⟩, fun _ _ => by omega, fun _ _ => by omega, fun _ _ => by omega⟩, Add_nan s t r q (add_nan_r t q _ h2 hq)⟩
  by_cases h3 : r = INF
  · by_cases h4 : q = INF
    · by_cases h5 : s = t
      · subst h5
        exact ⟨_, _, ⟨fun h => by simp at h; omega, fun _ _ _ => ⟨rfl, rfl⟩, fun _ _ => by omega, fun _ _ => by omega⟩, Add_inf s s s r q (by omega) (by omega) (.inl h3) (by rw [h3, h4]; exact add_inf_inf s)⟩
      · have ht : t = !s := by cases s <;> cases t <;> simp at h5 ⊢
        exact ⟨_, _, ⟨fun _ => ⟨rfl, rfl⟩, fun _ _ h => absurd (h h4) h5, fun _ _ => by omega, fun _ _ => by omega⟩, Add_nan s t r q (by rw [h3, h4, ht]; exact add_inf_not s)⟩
    · exact ⟨_, _, ⟨fun h => by omega, fun _ _ _ => ⟨rfl, rfl⟩, fun _ _ => by omega, fun _ _ => by omega⟩, Add_inf s t s r q (by omega) (by omega) (.inl h3) (by rw [h3]; exact add_inf_l s t q (by omega))⟩
  by_cases h4 : q = INF
  · exact ⟨_, _, ⟨fun h => by omega, fun _ _ _ => by omega, fun _ _ => ⟨rfl, rfl⟩, fun _ _ => by omega⟩, Add_inf s t t r q (by omega) (by omega) (.inr h4) (by rw [h4]; exact add_inf_r t s r (by omega))⟩
  have hrI : r < INF := by omega
  have hqI : q < INF := by omega
  obtain ⟨sg, L, T, lo, hi, g1, g2, g3, g4⟩ := sum_all s t r q hrI hqI
  obtain ⟨u, z, k1, k2, _⟩ := add_fin s t r q hrI hqI
  exact ⟨_, _, ⟨fun h => by omega, fun _ _ _ => by omega, fun _ _ => by omega, fun _ _ => ⟨sg, lo, hi, g1, g2, rfl, rfl⟩⟩, Add_num s t u r q z L T _ _ 0 hrI hqI k2.1 k1 g3 g4⟩

-- the eight calls
theorem AddDown_of (X Y D P : Nat) (h : ∀ w, Calls Try.prog 83 #[.float .f64 X, .float .f64 Y] w fun e w' => e = .returned (.tuple #[.float .f64 D, .float .f64 P]) ∧ Below w.heap.size w w') (w : World) :
    Calls Try.prog 15 #[.float .f64 X, .float .f64 Y] w fun e w' => e = .returned (.float .f64 D) ∧ Below w.heap.size w w' := by
  go_enter Try.func15, Try.ntmps15
  go_wp2_with (go_at_call 83; refine (h _).mono ?_; rintro e w' ⟨rfl, hb⟩)
  go_ret
  exact ⟨rfl, hb⟩
theorem AddUp_of (X Y D P : Nat) (h : ∀ w, Calls Try.prog 83 #[.float .f64 X, .float .f64 Y] w fun e w' => e = .returned (.tuple #[.float .f64 D, .float .f64 P]) ∧ Below w.heap.size w w') (w : World) :
    Calls Try.prog 16 #[.float .f64 X, .float .f64 Y] w fun e w' => e = .returned (.float .f64 P) ∧ Below w.heap.size w w' := by
  go_enter Try.func16, Try.ntmps16
  go_wp2_with (go_at_call 83; refine (h _).mono ?_; rintro e w' ⟨rfl, hb⟩)
  go_ret
  exact ⟨rfl, hb⟩
theorem MulDown_of (X Y D P : Nat) (h : ∀ w, Calls Try.prog 84 #[.float .f64 X, .float .f64 Y] w fun e w' => e = .returned (.tuple #[.float .f64 D, .float .f64 P]) ∧ Below w.heap.size w w') (w : World) :
    Calls Try.prog 17 #[.float .f64 X, .float .f64 Y] w fun e w' => e = .returned (.float .f64 D) ∧ Below w.heap.size w w' := by
  go_enter Try.func17, Try.ntmps17
  go_wp2_with (go_at_call 84; refine (h _).mono ?_; rintro e w' ⟨rfl, hb⟩)
  go_ret
  exact ⟨rfl, hb⟩
theorem MulUp_of (X Y D P : Nat) (h : ∀ w, Calls Try.prog 84 #[.float .f64 X, .float .f64 Y] w fun e w' => e = .returned (.tuple #[.float .f64 D, .float .f64 P]) ∧ Below w.heap.size w w') (w : World) :
    Calls Try.prog 18 #[.float .f64 X, .float .f64 Y] w fun e w' => e = .returned (.float .f64 P) ∧ Below w.heap.size w w' := by
  go_enter Try.func18, Try.ntmps18
  go_wp2_with (go_at_call 84; refine (h _).mono ?_; rintro e w' ⟨rfl, hb⟩)
  go_ret
  exact ⟨rfl, hb⟩
theorem DivDown_of (X Y D P : Nat) (h : ∀ w, Calls Try.prog 85 #[.float .f64 X, .float .f64 Y] w fun e w' => e = .returned (.tuple #[.float .f64 D, .float .f64 P]) ∧ Below w.heap.size w w') (w : World) :
    Calls Try.prog 19 #[.float .f64 X, .float .f64 Y] w fun e w' => e = .returned (.float .f64 D) ∧ Below w.heap.size w w' := by
  go_enter Try.func19, Try.ntmps19
  go_wp2_with (go_at_call 85; refine (h _).mono ?_; rintro e w' ⟨rfl, hb⟩)
  go_ret
  exact ⟨rfl, hb⟩
theorem DivUp_of (X Y D P : Nat) (h : ∀ w, Calls Try.prog 85 #[.float .f64 X, .float .f64 Y] w fun e w' => e = .returned (.tuple #[.float .f64 D, .float .f64 P]) ∧ Below w.heap.size w w') (w : World) :
    Calls Try.prog 20 #[.float .f64 X, .float .f64 Y] w fun e w' => e = .returned (.float .f64 P) ∧ Below w.heap.size w w' := by
  go_enter Try.func20, Try.ntmps20
  go_wp2_with (go_at_call 85; refine (h _).mono ?_; rintro e w' ⟨rfl, hb⟩)
  go_ret
  exact ⟨rfl, hb⟩
theorem SqrtDown_of (X D P : Nat) (h : ∀ w, Calls Try.prog 86 #[.float .f64 X] w fun e w' => e = .returned (.tuple #[.float .f64 D, .float .f64 P]) ∧ Below w.heap.size w w') (w : World) :
    Calls Try.prog 21 #[.float .f64 X] w fun e w' => e = .returned (.float .f64 D) ∧ Below w.heap.size w w' := by
  go_enter Try.func21, Try.ntmps21
  go_wp2_with (go_at_call 86; refine (h _).mono ?_; rintro e w' ⟨rfl, hb⟩)
  go_ret
  exact ⟨rfl, hb⟩
theorem SqrtUp_of (X D P : Nat) (h : ∀ w, Calls Try.prog 86 #[.float .f64 X] w fun e w' => e = .returned (.tuple #[.float .f64 D, .float .f64 P]) ∧ Below w.heap.size w w') (w : World) :
    Calls Try.prog 22 #[.float .f64 X] w fun e w' => e = .returned (.float .f64 P) ∧ Below w.heap.size w w' := by
  go_enter Try.func22, Try.ntmps22
  go_wp2_with (go_at_call 86; refine (h _).mono ?_; rintro e w' ⟨rfl, hb⟩)
  go_ret
  exact ⟨rfl, hb⟩
end Go.Proofs.Ytacnclofbnafiaa
