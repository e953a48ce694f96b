import Derived.Test.YtacnclofbnafiabQB
namespace Go.Proofs.Ytacnclofbnafiab
open Go.RowKit Fl

theorem mul_self_nn (x : Int) : 0 ≤ x * x := by
  rcases Int.le_total 0 x with h | h
  · exact Int.mul_nonneg h h
  · have := Int.mul_nonneg (show 0 ≤ -x by omega) (show 0 ≤ -x by omega)
    rwa [Int.neg_mul_neg] at this
-- sizes of complex numbers, in whole numbers
theorem le_of_sq {x y : Int} (hy : 0 ≤ y) (h : x * x ≤ y * y) : x ≤ y := by
  rcases Int.lt_or_le y x with g | g
  · exfalso
    have a := Int.mul_le_mul_of_nonneg_left (Int.le_of_lt g) hy
    have b := Int.mul_lt_mul_of_pos_right g (show 0 < x by omega)
    omega
  · exact g
/-- The size of a sum is at most the sum of the sizes. -/
theorem tri {a b c d R S : Int} (hR : 0 ≤ R) (hS : 0 ≤ S) (h1 : a * a + b * b ≤ R * R) (h2 : c * c + d * d ≤ S * S) : (a + c) * (a + c) + (b + d) * (b + d) ≤ (R + S) * (R + S) := by
  have e : (a * c + b * d) * (a * c + b * d) + (a * d - b * c) * (a * d - b * c) = (a * a + b * b) * (c * c + d * d) := by grind
  have n1 : 0 ≤ (a * d - b * c) * (a * d - b * c) := mul_self_nn _
  have n2 : 0 ≤ c * c + d * d := by have := mul_self_nn c; have := mul_self_nn d; omega
  have m1 : (a * a + b * b) * (c * c + d * d) ≤ R * R * (c * c + d * d) := Int.mul_le_mul_of_nonneg_right h1 n2
  have m2 : R * R * (c * c + d * d) ≤ R * R * (S * S) := Int.mul_le_mul_of_nonneg_left h2 (mul_self_nn R)
  have e2 : R * R * (S * S) = R * S * (R * S) := by grind
  have k := le_of_sq (Int.mul_nonneg hR hS) (show (a * c + b * d) * (a * c + b * d) ≤ R * S * (R * S) by omega)
  have e3 : (a + c) * (a + c) + (b + d) * (b + d) = (a * a + b * b) + (c * c + d * d) + 2 * (a * c + b * d) := by grind
  have e4 : (R + S) * (R + S) = R * R + S * S + 2 * (R * S) := by grind
  omega
-- DOWN
theorem Ops.aD_fin (F : Ops) {k l : Int} (hk : Fin k) (hl : Fin l) (h : Fin (F.aD k l)) : Vk (F.aD k l) ≤ Vk k + Vk l := by
  have d := ((F.add hk.pl hl.pl).num hk.1 hk.2 hl.1 hl.2).dn
  have := (d.ok _ h.1 h.2).2 (Int.le_refl _)
  unfold Ep at this
  omega
theorem Ops.aU_fin' (F : Ops) {k l : Int} (hk : Fin k) (hl : Fin l) (h : F.aU k l < INF) : Vk k + Vk l ≤ Vk (F.aU k l) :=
  (F.aU_fin hk.pl hl.pl hk.1 hl.1 h).2.2.1
end Go.Proofs.Ytacnclofbnafiab

namespace Go.Proofs.Ytacnclofbnafiab
open Go.RowKit Fl

theorem Fin.of {t : Int} (h0 : 0 ≤ t) (h1 : t < INF) : Fin t := ⟨by omega, h1⟩
/-- The reach and the radius, put together. -/
theorem Ard.rad {F : Ops} {k l m n u v c t : Int} (h : Ard F k l m n u v c) (pt : Pl t) (t0 : 0 ≤ t) (ht : F.aU c t < INF) : c < INF ∧ t < INF ∧ 0 ≤ Vk c ∧ 0 ≤ Vk t ∧ Vk c + Vk t ≤ Vk (F.aU c t) ∧ 0 ≤ F.aU c t := by
  obtain ⟨p1, p2⟩ := h.pl
  obtain ⟨pc, c0, _⟩ := h.len.ge p1 p2
  have hI := INF_pos
  obtain ⟨q1, q2, q3, _⟩ := F.aU_fin pc pt (by omega) (by omega) ht
  exact ⟨q1, q2, Vk_nn c0, Vk_nn t0, q3, F.aU_nn pc pt c0 t0⟩
/-- Sums: what lies in the two discs, added up, lies in what comes out. -/
theorem add_sound {F : Ops} {x y t x2 y2 t2 u v c : Int} (fx : Fin x) (fy : Fin y) (fx2 : Fin x2) (fy2 : Fin y2) (t0 : 0 ≤ t) (t1 : t < INF) (s0 : 0 ≤ t2) (s1 : t2 < INF)
    (h : Ard F (F.aD x x2) (F.aU x x2) (F.aD y y2) (F.aU y y2) u v c) (ht : F.aU c (F.aU t t2) < INF) {P Q P2 Q2 : Int}
    (h1 : (P - Vk x) * (P - Vk x) + (Q - Vk y) * (Q - Vk y) ≤ Vk t * Vk t) (h2 : (P2 - Vk x2) * (P2 - Vk x2) + (Q2 - Vk y2) * (Q2 - Vk y2) ≤ Vk t2 * Vk t2) :
    (P + P2 - Vk u) * (P + P2 - Vk u) + (Q + Q2 - Vk v) * (Q + Q2 - Vk v) ≤ Vk (F.aU c (F.aU t t2)) * Vk (F.aU c (F.aU t t2)) := by
  have ft := Fin.of t0 t1
  have ft2 := Fin.of s0 s1
  obtain ⟨c1, r1, vc, vr, q, _⟩ := h.rad (F.add_pl ft.pl ft2.pl).2 (F.aU_nn ft.pl ft2.pl t0 s0) ht
  have q2 := F.aU_fin' ft ft2 r1
  have b1 := F.aD_fin fx fx2 h.fk
  have b2 := F.aU_fin' fx fx2 h.fl.2
  have b3 := F.aD_fin fy fy2 h.fm
  have b4 := F.aU_fin' fy fy2 h.fn.2
  have s := h.sound c1 (C := 1) (E1 := Vk x + Vk x2) (E2 := Vk y + Vk y2) (by omega) (by omega) (by omega) (by omega) (by omega)
  simp only [Int.one_mul] at s
  have v1 := Vk_nn t0
  have v2 := Vk_nn s0
  have a1 := tri v1 v2 h1 h2
  have a2 := tri (by omega) vc a1 s
  have e1 : P - Vk x + (P2 - Vk x2) + (Vk x + Vk x2 - Vk u) = P + P2 - Vk u := by omega
  have e2 : Q - Vk y + (Q2 - Vk y2) + (Vk y + Vk y2 - Vk v) = Q + Q2 - Vk v := by omega
  rw [e1, e2] at a2
  exact Int.le_trans a2 (sq_mono (by omega) (by omega))
end Go.Proofs.Ytacnclofbnafiab
