import Derived.Test.YtacnclofbnafiabGreatDoorQB
namespace Go.Proofs.YtacnclofbnafiabGreatDoor
open Go.RowKit Fl

theorem mul_self_nn (x : Int) : 0 ≤ x * x := by
  rcases Int.le_total 0 x with h | h
  · exact Int.mul_nonneg h h
  · have := Int.mul_nonneg (show 0 ≤ -x by omega) (show 0 ≤ -x by omega)
    rwa [Int.neg_mul_neg] at this
-- sizes of complex numbers, in whole numbers
theorem le_of_sq {x y : Int} (hy : 0 ≤ y) (h : x * x ≤ y * y) : x ≤ y := by
  rcases Int.lt_or_le y x with g | g
  · exfalso
    have a := Int.mul_le_mul_of_nonneg_left (Int.le_of_lt g) hy
    have b := Int.mul_lt_mul_of_pos_right g (show 0 < x by omega)
    omega
  · exact g
/-- The size of a sum is at most the sum of the sizes. -/
theorem tri {a b c d R S : Int} (hR : 0 ≤ R) (hS : 0 ≤ S) (h1 : a * a + b * b ≤ R * R) (h2 : c * c + d * d ≤ S * S) : (a + c) * (a + c) + (b + d) * (b + d) ≤ (R + S) * (R + S) := by
  have e : (a * c + b * d) * (a * c + b * d) + (a * d - b * c) * (a * d - b * c) = (a * a + b * b) * (c * c + d * d) := by grind
  have n1 : 0 ≤ (a * d - b * c) * (a * d - b * c) := mul_self_nn _
  have n2 : 0 ≤ c * c + d * d := by have := mul_self_nn c; have := mul_self_nn d; omega
  have m1 : (a * a + b * b) * (c * c + d * d) ≤ R * R * (c * c + d * d) := Int.mul_le_mul_of_nonneg_right h1 n2
  have m2 : R * R * (c * c + d * d) ≤ R * R * (S * S) := Int.mul_le_mul_of_nonneg_left h2 (mul_self_nn R)
  have e2 : R * R * (S * S) = R * S * (R * S) := by grind
  have k := le_of_sq (Int.mul_nonneg hR hS) (show (a * c + b * d) * (a * c + b * d) ≤ R * S * (R * S) by omega)
  have e3 : (a + c) * (a + c) + (b + d) * (b + d) = (a * a + b * b) + (c * c + d * d) + 2 * (a * c + b * d) := by grind
  have e4 : (R + S) * (R + S) = R * R + S * S + 2 * (R * S) := by grind
  omega
/-- The size of a product is the product of the sizes. -/
theorem cmul {a b c d R S : Int} (h1 : a * a + b * b ≤ R * R) (h2 : c * c + d * d ≤ S * S) : (a * c - b * d) * (a * c - b * d) + (a * d + b * c) * (a * d + b * c) ≤ R * S * (R * S) := by
  have e : (a * c - b * d) * (a * c - b * d) + (a * d + b * c) * (a * d + b * c) = (a * a + b * b) * (c * c + d * d) := by grind
  have n2 : 0 ≤ c * c + d * d := by have := mul_self_nn c; have := mul_self_nn d; omega
  have m1 : (a * a + b * b) * (c * c + d * d) ≤ R * R * (c * c + d * d) := Int.mul_le_mul_of_nonneg_right h1 n2
  have m2 : R * R * (c * c + d * d) ≤ R * R * (S * S) := Int.mul_le_mul_of_nonneg_left h2 (mul_self_nn R)
  have e2 : R * R * (S * S) = R * S * (R * S) := by grind
  omega
theorem sq_zero {a b : Int} (h : a * a + b * b ≤ 0) : a = 0 ∧ b = 0 := by
  have h1 := mul_self_nn a
  have h2 := mul_self_nn b
  have z : ∀ x : Int, x * x = 0 → x = 0 := fun x h => by
    rcases Int.mul_eq_zero.1 h with h | h <;> exact h
  exact ⟨z a (by omega), z b (by omega)⟩
-- DOWN
theorem Ops.aD_fin (F : Ops) {k l : Int} (hk : Fin k) (hl : Fin l) (h : Fin (F.aD k l)) : Vk (F.aD k l) ≤ Vk k + Vk l := by
  have d := ((F.add hk.pl hl.pl).num hk.1 hk.2 hl.1 hl.2).dn
  have := (d.ok _ h.1 h.2).2 (Int.le_refl _)
  unfold Ep at this
  omega
theorem Ops.aU_fin' (F : Ops) {k l : Int} (hk : Fin k) (hl : Fin l) (h : F.aU k l < INF) : Vk k + Vk l ≤ Vk (F.aU k l) :=
  (F.aU_fin hk.pl hl.pl hk.1 hl.1 h).2.2.1
theorem Ops.mD_fin (F : Ops) {k l : Int} (hk : Fin k) (hl : Fin l) (h : Fin (F.mD k l)) : Vk (F.mD k l) * (U : Int) ≤ Vk k * Vk l := by
  have d := ((F.mul hk.pl hl.pl).num hk.1 hk.2 hl.1 hl.2).dn
  have := (d.ok _ h.1 h.2).2 (Int.le_refl _)
  unfold Et at this
  omega
theorem Ops.mU_fin' (F : Ops) {k l : Int} (hk : Fin k) (hl : Fin l) (h : Fin (F.mU k l)) : Vk k * Vk l ≤ Vk (F.mU k l) * (U : Int) := by
  have u := ((F.mul hk.pl hl.pl).num hk.1 hk.2 hl.1 hl.2).up
  have := (u.ok _ h.1 h.2).2 (Int.le_refl _)
  unfold Et at this
  omega
theorem Ops.p_one (F : Ops) (a b : Int) : F.pLo a a b b = F.mD a b ∧ F.pHi a a b b = F.mU a b := by unfold Ops.pLo Ops.pHi; omega
/-- UP of a product of sizes. -/
theorem Ops.mU_size (F : Ops) {k l : Int} (hk : Pl k) (hl : Pl l) (k0 : 0 ≤ k) (l0 : 0 ≤ l) (h : F.mU k l < INF) : (k = 0 ∨ l = 0 ∨ (k < INF ∧ l < INF)) ∧ (k < INF → l < INF → Vk k * Vk l ≤ Vk (F.mU k l) * (U : Int)) ∧ 0 ≤ Vk (F.mU k l) := by
  have z := Vk_nn (F.mul_pos hk hl k0 l0).2
  rcases Int.lt_or_eq_of_le k0 with a | a
  · rcases Int.lt_or_eq_of_le l0 with b | b
    · obtain ⟨q1, q2, q3⟩ := (F.mU_fin hk hl a b).2 h
      exact ⟨.inr (.inr ⟨q1, q2⟩), fun _ _ => q3, z⟩
    · refine ⟨.inr (.inl b.symm), fun _ _ => ?_, z⟩
      have e : Vk l = 0 := by rw [← b, Vk_zero]
      rw [e, Int.mul_zero]
      exact Int.mul_nonneg z (Int.le_of_lt U_posI)
  · refine ⟨.inl a.symm, fun _ _ => ?_, z⟩
    have e : Vk k = 0 := by rw [← a, Vk_zero]
    rw [e, Int.zero_mul]
    exact Int.mul_nonneg z (Int.le_of_lt U_posI)
end Go.Proofs.YtacnclofbnafiabGreatDoor

namespace Go.Proofs.YtacnclofbnafiabGreatDoor
open Go.RowKit Fl

theorem Ops.aD_args (F : Ops) {a b : Int} (ha : Pl a) (hb : Pl b) (h : Fin (F.aD a b)) : Fin a ∧ Fin b := by
  have A := F.add ha hb
  unfold Pl at ha hb
  unfold Fin at *
  have hI := INF_pos
  by_cases a1 : a = INF
  · by_cases b1 : b = -(INF : Int)
    · have := A.opp (.inl ⟨a1, b1⟩); omega
    · have := A.top (.inl ⟨a1, by omega⟩); omega
  · by_cases a2 : a = -(INF : Int)
    · by_cases b1 : b = INF
      · have := A.opp (.inr ⟨a2, b1⟩); omega
      · have := A.bot (.inl ⟨a2, by omega⟩); omega
    · by_cases b1 : b = INF
      · have := A.top (.inr ⟨by omega, b1⟩); omega
      · by_cases b2 : b = -(INF : Int)
        · have := A.bot (.inr ⟨by omega, b2⟩); omega
        · omega
theorem Ops.aU_args (F : Ops) {a b : Int} (ha : Pl a) (hb : Pl b) (h : Fin (F.aU a b)) : Fin a ∧ Fin b := by
  have A := F.add ha hb
  unfold Pl at ha hb
  unfold Fin at *
  have hI := INF_pos
  by_cases a1 : a = INF
  · by_cases b1 : b = -(INF : Int)
    · have := A.opp (.inl ⟨a1, b1⟩); omega
    · have := A.top (.inl ⟨a1, by omega⟩); omega
  · by_cases a2 : a = -(INF : Int)
    · by_cases b1 : b = INF
      · have := A.opp (.inr ⟨a2, b1⟩); omega
      · have := A.bot (.inl ⟨a2, by omega⟩); omega
    · by_cases b1 : b = INF
      · have := A.top (.inr ⟨by omega, b1⟩); omega
      · by_cases b2 : b = -(INF : Int)
        · have := A.bot (.inr ⟨by omega, b2⟩); omega
        · omega
theorem Fin.of {t : Int} (h0 : 0 ≤ t) (h1 : t < INF) : Fin t := ⟨by omega, h1⟩
/-- The reach and the radius, put together. -/
theorem Ard.rad {F : Ops} {k l m n u v c t : Int} (h : Ard F k l m n u v c) (pt : Pl t) (t0 : 0 ≤ t) (ht : F.aU c t < INF) : c < INF ∧ t < INF ∧ 0 ≤ Vk c ∧ 0 ≤ Vk t ∧ Vk c + Vk t ≤ Vk (F.aU c t) ∧ 0 ≤ F.aU c t := by
  obtain ⟨p1, p2⟩ := h.pl
  obtain ⟨pc, c0, _⟩ := h.len.ge p1 p2
  have hI := INF_pos
  obtain ⟨q1, q2, q3, _⟩ := F.aU_fin pc pt (by omega) (by omega) ht
  exact ⟨q1, q2, Vk_nn c0, Vk_nn t0, q3, F.aU_nn pc pt c0 t0⟩
/-- Sums: what lies in the two discs, added up, lies in what comes out. -/
theorem add_sound {F : Ops} {x y t x2 y2 t2 u v c : Int} (fx : Fin x) (fy : Fin y) (fx2 : Fin x2) (fy2 : Fin y2) (t0 : 0 ≤ t) (t1 : t < INF) (s0 : 0 ≤ t2) (s1 : t2 < INF)
    (h : Ard F (F.aD x x2) (F.aU x x2) (F.aD y y2) (F.aU y y2) u v c) (ht : F.aU c (F.aU t t2) < INF) {P Q P2 Q2 : Int}
    (h1 : (P - Vk x) * (P - Vk x) + (Q - Vk y) * (Q - Vk y) ≤ Vk t * Vk t) (h2 : (P2 - Vk x2) * (P2 - Vk x2) + (Q2 - Vk y2) * (Q2 - Vk y2) ≤ Vk t2 * Vk t2) :
    (P + P2 - Vk u) * (P + P2 - Vk u) + (Q + Q2 - Vk v) * (Q + Q2 - Vk v) ≤ Vk (F.aU c (F.aU t t2)) * Vk (F.aU c (F.aU t t2)) := by
  have ft := Fin.of t0 t1
  have ft2 := Fin.of s0 s1
  obtain ⟨c1, r1, vc, vr, q, _⟩ := h.rad (F.add_pl ft.pl ft2.pl).2 (F.aU_nn ft.pl ft2.pl t0 s0) ht
  have q2 := F.aU_fin' ft ft2 r1
  have b1 := F.aD_fin fx fx2 h.fk
  have b2 := F.aU_fin' fx fx2 h.fl.2
  have b3 := F.aD_fin fy fy2 h.fm
  have b4 := F.aU_fin' fy fy2 h.fn.2
  have s := h.sound c1 (C := 1) (E1 := Vk x + Vk x2) (E2 := Vk y + Vk y2) (by omega) (by omega) (by omega) (by omega) (by omega)
  simp only [Int.one_mul] at s
  have v1 := Vk_nn t0
  have v2 := Vk_nn s0
  have a1 := tri v1 v2 h1 h2
  have a2 := tri (by omega) vc a1 s
  have e1 : P - Vk x + (P2 - Vk x2) + (Vk x + Vk x2 - Vk u) = P + P2 - Vk u := by omega
  have e2 : Q - Vk y + (Q2 - Vk y2) + (Vk y + Vk y2 - Vk v) = Q + Q2 - Vk v := by omega
  rw [e1, e2] at a2
  exact Int.le_trans a2 (sq_mono (by omega) (by omega))
theorem sub_sound {F : Ops} {x y t x2 y2 t2 u v c : Int} (fx : Fin x) (fy : Fin y) (fx2 : Fin x2) (fy2 : Fin y2) (t0 : 0 ≤ t) (t1 : t < INF) (s0 : 0 ≤ t2) (s1 : t2 < INF)
    (h : Ard F (F.aD x (-x2)) (F.aU x (-x2)) (F.aD y (-y2)) (F.aU y (-y2)) u v c) (ht : F.aU c (F.aU t t2) < INF) {P Q P2 Q2 : Int}
    (h1 : (P - Vk x) * (P - Vk x) + (Q - Vk y) * (Q - Vk y) ≤ Vk t * Vk t) (h2 : (P2 - Vk x2) * (P2 - Vk x2) + (Q2 - Vk y2) * (Q2 - Vk y2) ≤ Vk t2 * Vk t2) :
    (P - P2 - Vk u) * (P - P2 - Vk u) + (Q - Q2 - Vk v) * (Q - Q2 - Vk v) ≤ Vk (F.aU c (F.aU t t2)) * Vk (F.aU c (F.aU t t2)) := by
  have h2' : (-P2 - Vk (-x2)) * (-P2 - Vk (-x2)) + (-Q2 - Vk (-y2)) * (-Q2 - Vk (-y2)) ≤ Vk t2 * Vk t2 := by
    rw [Vk_neg, Vk_neg]
    have e1 : (-P2 - -Vk x2) * (-P2 - -Vk x2) = (P2 - Vk x2) * (P2 - Vk x2) := by grind
    have e2 : (-Q2 - -Vk y2) * (-Q2 - -Vk y2) = (Q2 - Vk y2) * (Q2 - Vk y2) := by grind
    rw [e1, e2]
    exact h2
  exact add_sound fx fy fx2.neg fy2.neg t0 t1 s0 s1 h ht h1 h2'
/-- A middle times what is off the other one. -/
theorem side_sound {F : Ops} {x y q t a b : Int} (fx : Fin x) (fy : Fin y) (hq : LenOk F x y q) (t0 : 0 ≤ t) (t1 : t < INF) (h : F.mU q t < INF) (hab : a * a + b * b ≤ Vk t * Vk t) :
    0 ≤ Vk (F.mU q t) * (U : Int) ∧ (Vk x * a - Vk y * b) * (Vk x * a - Vk y * b) + (Vk x * b + Vk y * a) * (Vk x * b + Vk y * a) ≤ Vk (F.mU q t) * (U : Int) * (Vk (F.mU q t) * (U : Int)) := by
  obtain ⟨pq, q0, g⟩ := hq.ge fx.pl fy.pl
  have ft := Fin.of t0 t1
  obtain ⟨m1, m2, m3⟩ := F.mU_size pq ft.pl q0 t0 h
  have nn := Int.mul_nonneg m3 (Int.le_of_lt U_posI)
  refine ⟨nn, ?_⟩
  by_cases c : q < INF
  · obtain ⟨_, _, _, _, g⟩ := g c
    have k := cmul g hab
    have l := m2 c t1
    have := sq_mono (Int.mul_nonneg (Vk_nn q0) (Vk_nn t0)) l
    omega
  · have hI := INF_pos
    have z : t = 0 := by omega
    rw [z, Vk_zero] at hab
    obtain ⟨a0, b0⟩ := sq_zero (a := a) (b := b) (by omega)
    subst a0; subst b0
    have := mul_self_nn (Vk (F.mU q t) * (U : Int))
    simpa using this
theorem mul_sound {F : Ops} {x y t x2 y2 t2 q1 q2 u v c : Int} (fx : Fin x) (fy : Fin y) (fx2 : Fin x2) (fy2 : Fin y2) (t0 : 0 ≤ t) (t1 : t < INF) (s0 : 0 ≤ t2) (s1 : t2 < INF) (l1 : LenOk F x y q1) (l2 : LenOk F x2 y2 q2)
    (h : Ard F (F.aD (F.pLo x x x2 x2) (-(F.pHi y y y2 y2))) (F.aU (F.pHi x x x2 x2) (-(F.pLo y y y2 y2))) (F.aD (F.pLo x x y2 y2) (F.pLo y y x2 x2)) (F.aU (F.pHi x x y2 y2) (F.pHi y y x2 x2)) u v c)
    (ht : F.aU c (F.aU (F.aU (F.mU q1 t2) (F.mU q2 t)) (F.mU t t2)) < INF) {P Q P2 Q2 : Int}
    (h1 : (P - Vk x) * (P - Vk x) + (Q - Vk y) * (Q - Vk y) ≤ Vk t * Vk t) (h2 : (P2 - Vk x2) * (P2 - Vk x2) + (Q2 - Vk y2) * (Q2 - Vk y2) ≤ Vk t2 * Vk t2) :
    (P * P2 - Q * Q2 - U * Vk u) * (P * P2 - Q * Q2 - U * Vk u) + (P * Q2 + Q * P2 - U * Vk v) * (P * Q2 + Q * P2 - U * Vk v) ≤ U * Vk (F.aU c (F.aU (F.aU (F.mU q1 t2) (F.mU q2 t)) (F.mU t t2))) * (U * Vk (F.aU c (F.aU (F.aU (F.mU q1 t2) (F.mU q2 t)) (F.mU t t2)))) := by
  have hU := U_posI
  have ft := Fin.of t0 t1
  have ft2 := Fin.of s0 s1
  obtain ⟨pq1, q10, _⟩ := l1.ge fx.pl fy.pl
  obtain ⟨pq2, q20, _⟩ := l2.ge fx2.pl fy2.pl
  have pm1 := (F.mul_pl pq1 ft2.pl).2
  have pm2 := (F.mul_pl pq2 ft.pl).2
  have pm3 := (F.mul_pl ft.pl ft2.pl).2
  have z1 := (F.mul_pos pq1 ft2.pl q10 s0).2
  have z2 := (F.mul_pos pq2 ft.pl q20 t0).2
  have z3 := (F.mul_pos ft.pl ft2.pl t0 s0).2
  have pa := (F.add_pl pm1 pm2).2
  have z4 := F.aU_nn pm1 pm2 z1 z2
  obtain ⟨c1, r1, vc, _, e0, _⟩ := h.rad (F.add_pl pa pm3).2 (F.aU_nn pa pm3 z4 z3) ht
  have hI := INF_pos
  obtain ⟨r2, r3, e1, _⟩ := F.aU_fin pa pm3 (by omega) (by omega) r1
  obtain ⟨r4, r5, e2, _⟩ := F.aU_fin pm1 pm2 (by omega) (by omega) r2
  -- the box about the middles' product
  simp only [F.p_one] at h
  have k1 := F.aD_args (F.mul_pl fx.pl fx2.pl).1 (pl_neg (F.mul_pl fy.pl fy2.pl).2) h.fk
  have k2 := F.aU_args (F.mul_pl fx.pl fx2.pl).2 (pl_neg (F.mul_pl fy.pl fy2.pl).1) h.fl
  have k3 := F.aD_args (F.mul_pl fx.pl fy2.pl).1 (F.mul_pl fy.pl fx2.pl).1 h.fm
  have k4 := F.aU_args (F.mul_pl fx.pl fy2.pl).2 (F.mul_pl fy.pl fx2.pl).2 h.fn
  have n1 : Fin (F.mU y y2) := by have := k1.2.neg; rwa [Int.neg_neg] at this
  have n2 : Fin (F.mD y y2) := by have := k2.2.neg; rwa [Int.neg_neg] at this
  have b1 := F.aD_fin k1.1 k1.2 h.fk
  have b2 := F.aU_fin' k2.1 k2.2 h.fl.2
  have b3 := F.aD_fin k3.1 k3.2 h.fm
  have b4 := F.aU_fin' k4.1 k4.2 h.fn.2
  rw [Vk_neg] at b1 b2
  have m1 := F.mD_fin fx fx2 k1.1
  have m2 := F.mU_fin' fy fy2 n1
  have m3 := F.mU_fin' fx fx2 k2.1
  have m4 := F.mD_fin fy fy2 n2
  have m5 := F.mD_fin fx fy2 k3.1
  have m6 := F.mD_fin fy fx2 k3.2
  have m7 := F.mU_fin' fx fy2 k4.1
  have m8 := F.mU_fin' fy fx2 k4.2
  have w1 := Int.mul_le_mul_of_nonneg_left b1 (Int.le_of_lt hU)
  have w2 := Int.mul_le_mul_of_nonneg_left b2 (Int.le_of_lt hU)
  have w3 := Int.mul_le_mul_of_nonneg_left b3 (Int.le_of_lt hU)
  have w4 := Int.mul_le_mul_of_nonneg_left b4 (Int.le_of_lt hU)
  simp only [Int.mul_add, Int.mul_neg, Int.mul_comm _ (U : Int)] at w1 w2 w3 w4 m1 m2 m3 m4 m5 m6 m7 m8
  have s := h.sound c1 (C := (U : Int)) (E1 := Vk x * Vk x2 - Vk y * Vk y2) (E2 := Vk x * Vk y2 + Vk y * Vk x2) hU (by omega) (by omega) (by omega) (by omega)
  -- the rest
  obtain ⟨o1, a1⟩ := side_sound fx fy l1 s0 s1 r4 h2
  obtain ⟨o2, a2⟩ := side_sound fx2 fy2 l2 t0 t1 r5 h1
  have a3 := cmul h1 h2
  have o3 := (F.mU_size ft.pl ft2.pl t0 s0 r3)
  have a3' := sq_mono (Int.mul_nonneg (Vk_nn t0) (Vk_nn s0)) (o3.2.1 t1 s1)
  have o3' := Int.mul_nonneg o3.2.2 (Int.le_of_lt hU)
  have g1 := tri o1 o2 a1 a2
  have g2 := tri (Int.add_nonneg o1 o2) o3' g1 (Int.le_trans a3 a3')
  have g3 := tri (Int.add_nonneg (Int.add_nonneg o1 o2) o3') (Int.mul_nonneg (Int.le_of_lt hU) vc) g2 s
  have i1 : Vk x * (P2 - Vk x2) - Vk y * (Q2 - Vk y2) + (Vk x2 * (P - Vk x) - Vk y2 * (Q - Vk y)) + ((P - Vk x) * (P2 - Vk x2) - (Q - Vk y) * (Q2 - Vk y2)) + (Vk x * Vk x2 - Vk y * Vk y2 - U * Vk u) = P * P2 - Q * Q2 - U * Vk u := by grind
  have i2 : Vk x * (Q2 - Vk y2) + Vk y * (P2 - Vk x2) + (Vk x2 * (Q - Vk y) + Vk y2 * (P - Vk x)) + ((P - Vk x) * (Q2 - Vk y2) + (Q - Vk y) * (P2 - Vk x2)) + (Vk x * Vk y2 + Vk y * Vk x2 - U * Vk v) = P * Q2 + Q * P2 - U * Vk v := by grind
  rw [i1, i2] at g3
  refine Int.le_trans g3 (sq_mono (Int.add_nonneg (Int.add_nonneg (Int.add_nonneg o1 o2) o3') (Int.mul_nonneg (Int.le_of_lt hU) vc)) ?_)
  have f0 := Int.mul_le_mul_of_nonneg_left e0 (Int.le_of_lt hU)
  have f1 := Int.mul_le_mul_of_nonneg_left e1 (Int.le_of_lt hU)
  have f2 := Int.mul_le_mul_of_nonneg_left e2 (Int.le_of_lt hU)
  simp only [Int.mul_add] at f0 f1 f2
  simp only [Int.mul_comm _ (U : Int)]
  omega
end Go.Proofs.YtacnclofbnafiabGreatDoor
