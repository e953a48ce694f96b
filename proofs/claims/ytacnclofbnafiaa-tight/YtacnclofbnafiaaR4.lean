import Derived.Test.YtacnclofbnafiaaR3
import Derived.Test.YtacnclofbnafiaaDA
namespace Go.Proofs.Ytacnclofbnafiaa
open Go.RowKit Fl

theorem add_zero_W (s : Bool) (z : Nat) (hz : z < INF) : Ieee.double.add (W s z) 0 = some (pw s z) := by
  obtain ⟨sg, l, h1, h2, h3, h4⟩ := add_fin s false z 0 hz INF_pos
  rw [W_zero] at h1
  rw [V_zero, Int.add_zero] at h2 h3 h4
  have hl : l = z := h2.exact (Nat.le_of_lt hz) (by unfold Rt; rw [V_natAbs]; simp)
  subst hl
  rw [h1]
  unfold pw
  by_cases h0 : l = 0
  · subst h0
    rw [h4 (V_zero s)]; simp [W_zero]
  · rw [if_neg h0]
    have : sg = s := by
      cases s
      · exact h3.2 (V_pos (by omega))
      · exact h3.1 (V_neg (by omega))
    rw [this]
theorem pw_W (s : Bool) (z : Nat) (h : z ≠ 0) : pw s z = W s z := by unfold pw; rw [if_neg h]
theorem pw_abv (s : Bool) (z : Nat) : W (abv s z).1 (abv s z).2 = pw (abv s z).1 (abv s z).2 := by
  unfold abv
  split
  · rfl
  · cases s
    · simp only [Bool.false_eq_true, if_false]; rw [pw_W _ _ (by omega)]
    · simp only [if_true]
      split
      · simp [pw, W_zero]
      · rw [pw_W _ _ (by omega)]
theorem above_any (s : Bool) (z : Nat) (hz : z < INF) (w : World) :
    Calls Try.prog 169 #[.float .f64 (W s z)] w fun e w' => e = .returned (.float .f64 (W (abv s z).1 (abv s z).2)) ∧ w' = w := by
  have hz' := fin_lt (Nat.le_of_lt hz)
  rcases Nat.eq_zero_or_pos z with h0 | h0
  · have e : W (abv s z).1 (abv s z).2 = 1 := by unfold abv; rw [if_pos h0]; simp [W]
    have h := order_zero s z hz'
    rw [decide_eq_true h0] at h
    rw [e]
    clear e h0 hz hz'
    go_enter Try.func169, Try.ntmps169
    go_wp2
    go_ret
    exact ⟨rfl, rfl⟩
  · have h := order_ne_zero s z h0 hz'
    have hg := order_zero_cmp s z h0 (Nat.le_of_lt hz)
    cases s
    · have e : W (abv false z).1 (abv false z).2 = inc (W false z) := by
        rw [inc_W false z hz]; unfold abv; rw [if_neg (by omega)]; rfl
      have hg' : (Ieee.double.order (W false z) 0 == some .gt) = true := by rw [hg]; rfl
      rw [e]
      clear e h0 hz hz' hg
      go_enter Try.func169, Try.ntmps169
      go_wp2
      go_ret
      exact ⟨rfl, rfl⟩
    · have hg' : (Ieee.double.order (W true z) 0 == some .gt) = false := by rw [hg]; rfl
      have e : W (abv true z).1 (abv true z).2 = pw true (z - 1) := by
        unfold abv; rw [if_neg (by omega)]; simp only [if_true]
        split
        · rename_i h; subst h; simp [pw, W_zero]
        · rw [pw_W _ _ (by omega)]
      have hd : (IntKind.u64.wrap ((W true z : Int) - 1)).toNat = W true (z - 1) := dec_W true z h0 (Nat.le_of_lt hz)
      have ha := add_zero_W true (z - 1) (by omega)
      rw [← hd] at ha
      have hadd := fun t' w => run_float_arith (P := Try.prog) w .add t' .f64 _ _ _ ha
      rw [e]
      clear e h0 hz hz' hg ha hd
      go_enter Try.func169, Try.ntmps169
      go_wp2
      go_ret
      exact ⟨rfl, rfl⟩
theorem below_any (s : Bool) (z : Nat) (hz : z < INF) (w : World) :
    Calls Try.prog 168 #[.float .f64 (W s z)] w fun e w' => e = .returned (.float .f64 (W (blw s z).1 (blw s z).2)) ∧ w' = w := by
  have hn1 := unary_negF s z (fin_lt (Nat.le_of_lt hz))
  have hn2 := unary_negF (abv (!s) z).1 (abv (!s) z).2 (fin_lt (abv_le (!s) z hz).1)
  have ha := above_any (!s) z hz
  have e : W (blw s z).1 (blw s z).2 = W (!(abv (!s) z).1) (abv (!s) z).2 := rfl
  rw [e]
  clear e hz
  generalize (abv (!s) z).1 = u at *
  generalize (abv (!s) z).2 = y at *
  go_enter Try.func168, Try.ntmps168
  go_wp2_with (go_at_call 169; refine (ha _).mono ?_; rintro e w' ⟨rfl, rfl⟩)
  go_ret
  exact ⟨rfl, rfl⟩

/-- Beyond MAX, beyond -MAX. -/
theorem order_low' (s : Bool) (z mx : Nat) (hm : mx + 1 = INF) (hz : z ≤ INF) : (Ieee.double.order (W s z) (W true mx) == some .lt) = (s && decide (z = INF)) := by
  rcases Nat.lt_or_eq_of_le hz with h | h
  · rw [order_fin s true z mx h (by omega)]
    have h1 := (ix_min s z mx h hm).1
    have : ¬ V s z < V true mx := by rw [← ix_val]; omega
    have h2 : compare (V s z) (V true mx) ≠ .lt := by rw [Ne, Int.compare_eq_lt]; exact this
    have h3 : z ≠ INF := by omega
    simp [h2, h3]
  · subst h
    rw [order_inf_fin s true mx (by omega)]; cases s <;> simp
theorem order_high' (s : Bool) (z mx : Nat) (hm : mx + 1 = INF) (hz : z ≤ INF) : (Ieee.double.order (W s z) (W false mx) == some .gt) = (!s && decide (z = INF)) := by
  rcases Nat.lt_or_eq_of_le hz with h | h
  · rw [order_fin s false z mx h (by omega)]
    have h1 := (ix_min s z mx h hm).2
    have : ¬ V false mx < V s z := by rw [← ix_val]; omega
    have h2 : compare (V s z) (V false mx) ≠ .gt := by rw [Ne, Int.compare_eq_gt]; exact this
    have h3 : z ≠ INF := by omega
    simp [h2, h3]
  · subst h
    rw [order_inf_fin s false mx (by omega)]; cases s <;> simp
theorem W_low : W true 9218868437227405311 = 18442240474082181119 := by unfold W; rfl
theorem order_low (s : Bool) (z : Nat) (hz : z ≤ INF) : (Ieee.double.order (W s z) 18442240474082181119 == some .lt) = (s && decide (z = INF)) := by
  have := order_low' s z 9218868437227405311 MAX_eq hz
  rwa [W_low] at this
theorem order_high (s : Bool) (z : Nat) (hz : z ≤ INF) : (Ieee.double.order (W s z) 9218868437227405311 == some .gt) = (!s && decide (z = INF)) := by
  have := order_high' s z 9218868437227405311 MAX_eq hz
  rwa [W_false 9218868437227405311] at this
end Go.Proofs.Ytacnclofbnafiaa
