import Derived.Test.YtacnclofbnafiabR2
import Derived.Test.YtacnclofbnafiabW6
import Derived.Test.YtacnclofbnafiabDA
namespace Go.Proofs.Ytacnclofbnafiab
open Go.RowKit Fl

theorem one_lt : 4607182418800017408 < INF := by rw [INF_eq]; omega
end Go.Proofs.Ytacnclofbnafiab

namespace Go.Proofs.Ytacnclofbnafiab
open Go.RowKit Fl

theorem add_zero_W (s : Bool) (z : Nat) (hz : z < INF) : Ieee.double.add (W s z) 0 = some (pw s z) := by
  obtain ⟨sg, l, h1, h2, h3, h4⟩ := add_fin s false z 0 hz INF_pos
  rw [W_zero] at h1
  rw [V_zero, Int.add_zero] at h2 h3 h4
  have hl : l = z := h2.exact (Nat.le_of_lt hz) (by unfold Rt; rw [V_natAbs]; simp)
  subst hl
  rw [h1]
  unfold pw
  by_cases h0 : l = 0
  · subst h0
    rw [h4 (V_zero s)]; simp [W_zero]
  · rw [if_neg h0]
    have : sg = s := by
      cases s
      · exact h3.2 (V_pos (by omega))
      · exact h3.1 (V_neg (by omega))
    rw [this]
theorem pw_W (s : Bool) (z : Nat) (h : z ≠ 0) : pw s z = W s z := by unfold pw; rw [if_neg h]
/-- Beyond MAX, beyond -MAX. -/
theorem order_low' (s : Bool) (z mx : Nat) (hm : mx + 1 = INF) (hz : z ≤ INF) : (Ieee.double.order (W s z) (W true mx) == some .lt) = (s && decide (z = INF)) := by
  rcases Nat.lt_or_eq_of_le hz with h | h
  · rw [order_fin s true z mx h (by omega)]
    have h1 := (ix_min s z mx h hm).1
    have : ¬ V s z < V true mx := by rw [← ix_val]; omega
    have h2 : compare (V s z) (V true mx) ≠ .lt := by rw [Ne, Int.compare_eq_lt]; exact this
    have h3 : z ≠ INF := by omega
    simp [h2, h3]
  · subst h
    rw [order_inf_fin s true mx (by omega)]; cases s <;> simp
theorem order_high' (s : Bool) (z mx : Nat) (hm : mx + 1 = INF) (hz : z ≤ INF) : (Ieee.double.order (W s z) (W false mx) == some .gt) = (!s && decide (z = INF)) := by
  rcases Nat.lt_or_eq_of_le hz with h | h
  · rw [order_fin s false z mx h (by omega)]
    have h1 := (ix_min s z mx h hm).2
    have : ¬ V false mx < V s z := by rw [← ix_val]; omega
    have h2 : compare (V s z) (V false mx) ≠ .gt := by rw [Ne, Int.compare_eq_gt]; exact this
    have h3 : z ≠ INF := by omega
    simp [h2, h3]
  · subst h
    rw [order_inf_fin s false mx (by omega)]; cases s <;> simp
theorem W_low : W true 9218868437227405311 = 18442240474082181119 := by unfold W; rfl
theorem order_low (s : Bool) (z : Nat) (hz : z ≤ INF) : (Ieee.double.order (W s z) 18442240474082181119 == some .lt) = (s && decide (z = INF)) := by
  have := order_low' s z 9218868437227405311 MAX_eq hz
  rwa [W_low] at this
theorem order_high (s : Bool) (z : Nat) (hz : z ≤ INF) : (Ieee.double.order (W s z) 9218868437227405311 == some .gt) = (!s && decide (z = INF)) := by
  have := order_high' s z 9218868437227405311 MAX_eq hz
  rwa [W_false 9218868437227405311] at this
end Go.Proofs.Ytacnclofbnafiab
