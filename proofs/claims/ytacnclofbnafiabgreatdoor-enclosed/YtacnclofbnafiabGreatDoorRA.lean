import Derived.Test.YtacnclofbnafiabGreatDoorR2
import Derived.Test.YtacnclofbnafiabGreatDoorW6
import Derived.Test.YtacnclofbnafiabGreatDoorDA
namespace Go.Proofs.YtacnclofbnafiabGreatDoor
open Go.RowKit Fl

theorem sgI_or (s : Bool) : sgI s = 1 ∨ sgI s = -1 := by cases s <;> simp [sgI]
theorem V_sg (s : Bool) (r : Nat) : V s r = sgI s * ((mg r : Int) * ((2 ^ (pl r + 1074).toNat : Nat) : Int)) := by
  unfold V sgI
  rw [M_pl, Int.natCast_mul]
  cases s <;> simp
theorem pl_le (r : Nat) (h : r < INF) : pl r ≤ 971 := by rw [INF_eq] at h; unfold pl; omega
theorem wrap_pow (n : Nat) (h : n ≤ 23) : wrap64 (2 ^ n) = ((2 ^ n : Nat) : Int) ∧ 0 < ((2 ^ n : Nat) : Int) ∧ ((2 ^ n : Nat) : Int) ≤ 8388608 := by
  have h1 : 2 ^ n ≤ 2 ^ 23 := Nat.pow_le_pow_right (by omega) h
  have h2 := Nat.two_pow_pos n
  have e : ((2 : Int) ^ n) = ((2 ^ n : Nat) : Int) := by simp
  rw [e]
  rw [show (2 ^ 23 : Nat) = 8388608 by decide] at h1
  exact ⟨by unfold wrap64; omega, by omega, by omega⟩
theorem alg (x y m n A B C D : Int) (h : A * B = C * D * 4096) : x * y * (m * n) * A * B = x * (m * C) * (y * (n * D)) * 4096 := by
  rw [Int.mul_assoc _ A B, h]
  simp only [Int.mul_assoc, Int.mul_left_comm, Int.mul_comm]
theorem exadd_any (be bd : Nat) (f : Nat → Int) (K : Int) (w : World) (s t : Bool) (r q : Nat) (hX : OwnX be bd f w) (hf : ∀ j, -K ≤ f j ∧ f j ≤ K)
    (hK0 : 0 ≤ K) (hK : K ≤ 576460752303423488) (hr : r < INF) (hq : q < INF) :
    Calls Tryz.prog 47 #[.pointer (some ⟨be, 0, none⟩), .float .f64 (W s r), .float .f64 (W t q)] w
      fun e w' => e = .returned (.tuple #[]) ∧ Below bd w w' ∧ ∃ f', OwnX be bd f' w' ∧ (∀ j, -(K + 1266637395197952) ≤ f' j ∧ f' j ≤ K + 1266637395197952)
        ∧ dv f' 190 = dv f 190 + V s r * V t q * 4096 := by
  have p1 := pl_ge r
  have p2 := pl_ge q
  have p3 := pl_le r hr
  have p4 := pl_le q hq
  obtain ⟨w1, w2, w3⟩ := wrap_pow ((pl r + pl q + 2160) % 24).toNat (by omega)
  refine (exadd_walk be bd f K w (W s r) (W t q) (mg r) (mg q) ((pl r + pl q + 2160) / 24).toNat (sgI s) (sgI t) (pl r) (pl q) _ hX hf hK0 hK (sgI_or s) (sgI_or t) (mg_lt r) (mg_lt q)
    p1 p3 p2 p4 (by omega) w1 w2 w3 (parts_any s r hr) (parts_any t q hq)).mono ?_
  rintro e w' ⟨h1, h2, f', h3, h4, h5⟩
  refine ⟨h1, h2, f', h3, h4, ?_⟩
  have e1 : ((2 ^ ((pl r + pl q + 2160) % 24).toNat : Nat) : Int) * ((2 ^ (24 * ((pl r + pl q + 2160) / 24).toNat) : Nat) : Int)
      = ((2 ^ (pl r + 1074).toNat : Nat) : Int) * ((2 ^ (pl q + 1074).toNat : Nat) : Int) * 4096 := by
    have e4 : (4096 : Int) = ((2 ^ 12 : Nat) : Int) := rfl
    have hx : ((pl r + pl q + 2160) % 24).toNat + 24 * ((pl r + pl q + 2160) / 24).toNat = (pl r + 1074).toNat + (pl q + 1074).toNat + 12 := by omega
    rw [e4, ← Int.natCast_mul, ← Int.natCast_mul, ← Int.natCast_mul, ← Nat.pow_add, ← Nat.pow_add, ← Nat.pow_add, hx]
  rw [h5, V_sg, V_sg, alg _ _ _ _ _ _ _ _ e1]

theorem one_lt : 4607182418800017408 < INF := by rw [INF_eq]; omega
/-- A bound on what is exact. -/
theorem VV_le (s t : Bool) (r q : Nat) (hr : r < INF) (hq : q < INF) : V s r * V t q ≤ ((M INF * M INF : Nat) : Int) := by
  have h1 := Nat.mul_le_mul (Nat.le_of_lt (M_lt hr)) (Nat.le_of_lt (M_lt hq))
  have h2 : V s r * V t q ≤ ((M r * M q : Nat) : Int) := by
    rw [V_mul]; split <;> omega
  omega
theorem sign_scale (x c : Int) (hc : 0 < c) : (x * c).sign = x.sign := by
  rw [Int.sign_mul, Int.sign_eq_one_iff_pos.2 hc, Int.mul_one]
end Go.Proofs.YtacnclofbnafiabGreatDoor

namespace Go.Proofs.YtacnclofbnafiabGreatDoor
open Go.RowKit Fl

theorem pw_W (s : Bool) (z : Nat) (h : z ≠ 0) : pw s z = W s z := by unfold pw; rw [if_neg h]
/-- Beyond MAX, beyond -MAX. -/
theorem order_low' (s : Bool) (z mx : Nat) (hm : mx + 1 = INF) (hz : z ≤ INF) : (Ieee.double.order (W s z) (W true mx) == some .lt) = (s && decide (z = INF)) := by
  rcases Nat.lt_or_eq_of_le hz with h | h
  · rw [order_fin s true z mx h (by omega)]
    have h1 := (ix_min s z mx h hm).1
    have : ¬ V s z < V true mx := by rw [← ix_val]; omega
    have h2 : compare (V s z) (V true mx) ≠ .lt := by rw [Ne, Int.compare_eq_lt]; exact this
    have h3 : z ≠ INF := by omega
    simp [h2, h3]
  · subst h
    rw [order_inf_fin s true mx (by omega)]; cases s <;> simp
theorem order_high' (s : Bool) (z mx : Nat) (hm : mx + 1 = INF) (hz : z ≤ INF) : (Ieee.double.order (W s z) (W false mx) == some .gt) = (!s && decide (z = INF)) := by
  rcases Nat.lt_or_eq_of_le hz with h | h
  · rw [order_fin s false z mx h (by omega)]
    have h1 := (ix_min s z mx h hm).2
    have : ¬ V false mx < V s z := by rw [← ix_val]; omega
    have h2 : compare (V s z) (V false mx) ≠ .gt := by rw [Ne, Int.compare_eq_gt]; exact this
    have h3 : z ≠ INF := by omega
    simp [h2, h3]
  · subst h
    rw [order_inf_fin s false mx (by omega)]; cases s <;> simp
theorem W_low : W true 9218868437227405311 = 18442240474082181119 := by unfold W; rfl
theorem order_low (s : Bool) (z : Nat) (hz : z ≤ INF) : (Ieee.double.order (W s z) 18442240474082181119 == some .lt) = (s && decide (z = INF)) := by
  have := order_low' s z 9218868437227405311 MAX_eq hz
  rwa [W_low] at this
theorem order_high (s : Bool) (z : Nat) (hz : z ≤ INF) : (Ieee.double.order (W s z) 9218868437227405311 == some .gt) = (!s && decide (z = INF)) := by
  have := order_high' s z 9218868437227405311 MAX_eq hz
  rwa [W_false 9218868437227405311] at this
end Go.Proofs.YtacnclofbnafiabGreatDoor
