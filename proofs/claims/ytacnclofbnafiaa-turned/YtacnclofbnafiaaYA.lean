import Derived.Test.YtacnclofbnafiaaQB
namespace Go.Proofs.Ytacnclofbnafiaa
open Go.RowKit Fl

theorem mul_self_nn (x : Int) : 0 ≤ x * x := by
  rcases Int.le_total 0 x with h | h
  · exact Int.mul_nonneg h h
  · have := Int.mul_nonneg (show 0 ≤ -x by omega) (show 0 ≤ -x by omega)
    rwa [Int.neg_mul_neg] at this
-- sizes of complex numbers, in whole numbers
theorem le_of_sq {x y : Int} (hy : 0 ≤ y) (h : x * x ≤ y * y) : x ≤ y := by
  rcases Int.lt_or_le y x with g | g
  · exfalso
    have a := Int.mul_le_mul_of_nonneg_left (Int.le_of_lt g) hy
    have b := Int.mul_lt_mul_of_pos_right g (show 0 < x by omega)
    omega
  · exact g
/-- The size of a sum is at most the sum of the sizes. -/
theorem tri {a b c d R S : Int} (hR : 0 ≤ R) (hS : 0 ≤ S) (h1 : a * a + b * b ≤ R * R) (h2 : c * c + d * d ≤ S * S) : (a + c) * (a + c) + (b + d) * (b + d) ≤ (R + S) * (R + S) := by
  have e : (a * c + b * d) * (a * c + b * d) + (a * d - b * c) * (a * d - b * c) = (a * a + b * b) * (c * c + d * d) := by grind
  have n1 : 0 ≤ (a * d - b * c) * (a * d - b * c) := mul_self_nn _
  have n2 : 0 ≤ c * c + d * d := by have := mul_self_nn c; have := mul_self_nn d; omega
  have m1 : (a * a + b * b) * (c * c + d * d) ≤ R * R * (c * c + d * d) := Int.mul_le_mul_of_nonneg_right h1 n2
  have m2 : R * R * (c * c + d * d) ≤ R * R * (S * S) := Int.mul_le_mul_of_nonneg_left h2 (mul_self_nn R)
  have e2 : R * R * (S * S) = R * S * (R * S) := by grind
  have k := le_of_sq (Int.mul_nonneg hR hS) (show (a * c + b * d) * (a * c + b * d) ≤ R * S * (R * S) by omega)
  have e3 : (a + c) * (a + c) + (b + d) * (b + d) = (a * a + b * b) + (c * c + d * d) + 2 * (a * c + b * d) := by grind
  have e4 : (R + S) * (R + S) = R * R + S * S + 2 * (R * S) := by grind
  omega
end Go.Proofs.Ytacnclofbnafiaa

namespace Go.Proofs.Ytacnclofbnafiaa
open Go.RowKit Fl

theorem Fin.of {t : Int} (h0 : 0 ≤ t) (h1 : t < INF) : Fin t := ⟨by omega, h1⟩
/-- The reach and the radius, put together. -/
theorem Ard.rad {F : Ops} {k l m n u v c t : Int} (h : Ard F k l m n u v c) (pt : Pl t) (t0 : 0 ≤ t) (ht : F.aU c t < INF) : c < INF ∧ t < INF ∧ 0 ≤ Vk c ∧ 0 ≤ Vk t ∧ Vk c + Vk t ≤ Vk (F.aU c t) ∧ 0 ≤ F.aU c t := by
  obtain ⟨p1, p2⟩ := h.pl
  obtain ⟨pc, c0, _⟩ := h.len.ge p1 p2
  have hI := INF_pos
  obtain ⟨q1, q2, q3, _⟩ := F.aU_fin pc pt (by omega) (by omega) ht
  exact ⟨q1, q2, Vk_nn c0, Vk_nn t0, q3, F.aU_nn pc pt c0 t0⟩
end Go.Proofs.Ytacnclofbnafiaa
