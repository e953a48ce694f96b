import Derived.Test.YtiohmafmkdbljaaF7
namespace Go.Proofs.Ytiohmafmkdbljaa.Fl
open Ieee

theorem V_cmp_pos (r q : Nat) : compare (V false r) (V false q) = compare r q := by
  rcases Nat.lt_trichotomy r q with h | h | h
  · rw [Int.compare_eq_lt.2 ((V_lt_pos r q).2 h), Nat.compare_eq_lt.2 h]
  · subst h; simp
  · rw [Int.compare_eq_gt.2 ((V_lt_pos q r).2 h), Nat.compare_eq_gt.2 h]
theorem V_true (r : Nat) : V true r = - V false r := V_not false r
theorem V_cmp_neg (r q : Nat) : compare (V true r) (V true q) = compare q r := by
  have h1 := V_lt_pos r q
  have h2 := V_lt_pos q r
  rw [V_true, V_true]
  rcases Nat.lt_trichotomy r q with h | h | h
  · rw [Nat.compare_eq_gt.2 h, Int.compare_eq_gt.2]; have := h1.2 h; omega
  · subst h; simp
  · rw [Nat.compare_eq_lt.2 h, Int.compare_eq_lt.2]; have := h2.2 h; omega

/-- Two of one sign, by their rungs. -/
theorem order_mag (s : Bool) (r q : Nat) (hr : r ≤ INF) (hq : q ≤ INF) : double.order (W s r) (W s q) = some (if s then compare q r else compare r q) := by
  rcases Nat.lt_or_eq_of_le hr with hr' | hr'
  · rcases Nat.lt_or_eq_of_le hq with hq' | hq'
    · rw [order_fin s s r q hr' hq']
      cases s
      · rw [V_cmp_pos]; rfl
      · rw [V_cmp_neg]; rfl
    · subst hq'
      rw [order_fin_inf s s r hr', Nat.compare_eq_lt.2 hr', Nat.compare_eq_gt.2 hr']
  · subst hr'
    rcases Nat.lt_or_eq_of_le hq with hq' | hq'
    · rw [order_inf_fin s s q hq', Nat.compare_eq_lt.2 hq', Nat.compare_eq_gt.2 hq']
    · subst hq'
      rw [order_inf_inf]; cases s <;> simp
theorem order_zero_cmp (s : Bool) (r : Nat) (h0 : 0 < r) (hr : r ≤ INF) : double.order (W s r) 0 = some (if s then .lt else .gt) := by
  have h := order_mag s r 0 hr (Nat.zero_le _)
  have e : double.order (W s r) (W false 0) = double.order (W s r) (W s 0) := by
    rcases Nat.lt_or_eq_of_le hr with hr' | hr'
    · rw [order_fin s false r 0 hr' INF_pos, order_fin s s r 0 hr' INF_pos, V_zero, V_zero]
    · subst hr'; rw [order_inf_fin s false 0 INF_pos, order_inf_fin s s 0 INF_pos]
  rw [W_zero] at e
  rw [e, h, Nat.compare_eq_lt.2 h0, Nat.compare_eq_gt.2 h0]
theorem order_zero_zero (s : Bool) : double.order (W s 0) 0 = some .eq := by
  have := order_fin s false 0 0 INF_pos INF_pos
  rw [W_zero] at this
  rw [this, V_zero, V_zero]; simp
/-- Against the infinity of the other sign. -/
theorem order_far (s : Bool) (r : Nat) (hr : r ≤ INF) : double.order (W s r) (W (!s) INF) = some (if s then .lt else .gt) ∧ double.order (W (!s) INF) (W s r) = some (if s then .gt else .lt) := by
  rcases Nat.lt_or_eq_of_le hr with hr' | hr'
  · rw [order_fin_inf (!s) s r hr', order_inf_fin (!s) s r hr']; cases s <;> exact ⟨rfl, rfl⟩
  · subst hr'; rw [order_inf_inf, order_inf_inf]; cases s <;> exact ⟨rfl, rfl⟩
end Go.Proofs.Ytiohmafmkdbljaa.Fl
