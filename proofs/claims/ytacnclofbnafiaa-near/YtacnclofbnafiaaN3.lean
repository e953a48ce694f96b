import Derived.Test.YtacnclofbnafiaaN2
namespace Go.Proofs.Ytacnclofbnafiaa
open Go.RowKit Fl

theorem dnV_upV (sg : Bool) (lo hi : Nat) : upV (!sg) lo hi = -(dnV sg lo hi) := by
  unfold upV dnV V; cases sg <;> simp
theorem dnV_zero (u : Bool) : dnV u 0 0 = 0 := by unfold dnV; cases u <;> exact V_zero _
theorem upV_zero (u : Bool) : upV u 0 0 = 0 := by unfold upV; cases u <;> exact V_zero _
theorem add_swap (s t : Bool) (r q D P D' P' : Nat) (H : AddSpec s r t q D P) (H' : AddSpec t q s r D' P') : ∃ v, Is D' v ∧ Is D v := by
  by_cases h0 : INF < r ∨ INF < q ∨ (r = INF ∧ q = INF ∧ s ≠ t)
  · obtain ⟨rfl, _⟩ := H.all h0
    obtain ⟨rfl, _⟩ := H'.all (by
      rcases h0 with h | h | ⟨h1, h2, h3⟩
      · exact .inr (.inl h)
      · exact .inl h
      · exact .inr (.inr ⟨h2, h1, fun e => h3 e.symm⟩))
    exact ⟨_, Is.allD, Is.allD⟩
  have hr : ¬ INF < r := fun h => h0 (.inl h)
  have hq : ¬ INF < q := fun h => h0 (.inr (.inl h))
  by_cases h1 : r = INF
  · by_cases h2 : q = INF
    · have hst : s = t := Classical.byContradiction fun h => h0 (.inr (.inr ⟨h1, h2, h⟩))
      obtain ⟨rfl, _⟩ := H.inf_l h1 (by omega) (fun _ => hst)
      obtain ⟨rfl, _⟩ := H'.inf_l h2 (by omega) (fun _ => hst.symm)
      rw [hst]
      exact ⟨_, Is.word t INF (Nat.le_refl _), Is.word t INF (Nat.le_refl _)⟩
    · obtain ⟨rfl, _⟩ := H.inf_l h1 (by omega) (fun h => absurd h h2)
      obtain ⟨rfl, _⟩ := H'.inf_r (by omega) h1
      exact ⟨_, Is.word s INF (Nat.le_refl _), Is.word s INF (Nat.le_refl _)⟩
  by_cases h2 : q = INF
  · obtain ⟨rfl, _⟩ := H.inf_r (by omega) h2
    obtain ⟨rfl, _⟩ := H'.inf_l h2 (by omega) (fun h => absurd h h1)
    exact ⟨_, Is.word t INF (Nat.le_refl _), Is.word t INF (Nat.le_refl _)⟩
  obtain ⟨sg, lo, hi, k1, k2, rfl, _⟩ := H.num (by omega) (by omega)
  obtain ⟨sg', lo', hi', k1', k2', rfl, _⟩ := H'.num (by omega) (by omega)
  rw [Int.add_comm] at k1' k2'
  obtain ⟨rfl, rfl⟩ := LoHi.unique (Rt_anti _ _ (by omega)) k2 k2'
  have b1 := k2.lo_lt
  have b2 := k2.hi_le
  refine ⟨dnV sg lo hi, ?_, Is.dn sg lo hi (by omega) b2⟩
  have e : dnV sg' lo hi = dnV sg lo hi := by
    rcases Int.lt_trichotomy (V s r + V t q) 0 with e | e | e
    · rw [k1.1 e, k1'.1 e]
    · rw [e] at k2
      obtain ⟨rfl, rfl⟩ := LoHi_zero (Rt_anti _ _ (by omega)) (by unfold Rt; simp) k2
      rw [dnV_zero, dnV_zero]
    · rw [k1.2 e, k1'.2 e]
  rw [← e]; exact Is.dn sg' lo hi (by omega) b2
theorem add_neg (s t : Bool) (r q D P D' P' : Nat) (H : AddSpec s r t q D P) (H' : AddSpec (!s) r (!t) q D' P') : ∃ v, Is P' (-v) ∧ Is D v := by
  by_cases h0 : INF < r ∨ INF < q ∨ (r = INF ∧ q = INF ∧ s ≠ t)
  · obtain ⟨rfl, _⟩ := H.all h0
    obtain ⟨_, rfl⟩ := H'.all (by
      rcases h0 with h | h | ⟨h1, h2, h3⟩
      · exact .inl h
      · exact .inr (.inl h)
      · exact .inr (.inr ⟨h1, h2, fun e => h3 (by cases s <;> cases t <;> simp at e ⊢)⟩))
    exact ⟨_, by rw [Int.neg_neg]; exact Is.allU, Is.allD⟩
  have hr : ¬ INF < r := fun h => h0 (.inl h)
  have hq : ¬ INF < q := fun h => h0 (.inr (.inl h))
  by_cases h1 : r = INF
  · have hst : q = INF → s = t := fun h2 => Classical.byContradiction fun h => h0 (.inr (.inr ⟨h1, h2, h⟩))
    obtain ⟨rfl, _⟩ := H.inf_l h1 (by omega) hst
    obtain ⟨_, rfl⟩ := H'.inf_l h1 (by omega) (fun h => by rw [hst h])
    exact ⟨_, by rw [← V_not]; exact Is.word (!s) INF (Nat.le_refl _), Is.word s INF (Nat.le_refl _)⟩
  by_cases h2 : q = INF
  · obtain ⟨rfl, _⟩ := H.inf_r (by omega) h2
    obtain ⟨_, rfl⟩ := H'.inf_r (by omega) h2
    exact ⟨_, by rw [← V_not]; exact Is.word (!t) INF (Nat.le_refl _), Is.word t INF (Nat.le_refl _)⟩
  obtain ⟨sg, lo, hi, k1, k2, rfl, _⟩ := H.num (by omega) (by omega)
  obtain ⟨sg', lo', hi', k1', k2', _, rfl⟩ := H'.num (by omega) (by omega)
  have hE : V (!s) r + V (!t) q = -(V s r + V t q) := by rw [V_not, V_not]; omega
  rw [hE] at k1' k2'
  rw [Int.natAbs_neg] at k2'
  obtain ⟨rfl, rfl⟩ := LoHi.unique (Rt_anti _ _ (by omega)) k2 k2'
  have b1 := k2.lo_lt
  have b2 := k2.hi_le
  refine ⟨dnV sg lo hi, ?_, Is.dn sg lo hi (by omega) b2⟩
  have e : upV sg' lo hi = -(dnV sg lo hi) := by
    rw [← dnV_upV]
    rcases Int.lt_trichotomy (V s r + V t q) 0 with e | e | e
    · rw [k1.1 e, k1'.2 (by omega)]; rfl
    · rw [e] at k2
      obtain ⟨rfl, rfl⟩ := LoHi_zero (Rt_anti _ _ (by omega)) (by unfold Rt; simp) k2
      rw [upV_zero, upV_zero]
    · rw [k1.2 e, k1'.1 (by omega)]; rfl
  rw [← e]; exact Is.up sg' lo hi (by omega) b2
theorem mul_swap (s t : Bool) (r q D P D' P' : Nat) (H : MulSpec s r t q D P) (H' : MulSpec t q s r D' P') : ∃ v, Is D' v ∧ Is D v := by
  by_cases h0 : INF < r ∨ INF < q
  · obtain ⟨rfl, _⟩ := H.nan h0
    obtain ⟨rfl, _⟩ := H'.nan (by omega)
    exact ⟨_, Is.allD, Is.allD⟩
  by_cases h1 : r = 0 ∨ q = 0
  · obtain ⟨rfl, _⟩ := H.zero (by omega) (by omega) h1
    obtain ⟨rfl, _⟩ := H'.zero (by omega) (by omega) (by omega)
    exact ⟨_, Is.zero, Is.zero⟩
  by_cases h2 : r = INF ∨ q = INF
  · obtain ⟨rfl, _⟩ := H.inf (by omega) (by omega) (by omega) (by omega) h2
    obtain ⟨rfl, _⟩ := H'.inf (by omega) (by omega) (by omega) (by omega) (by omega)
    rw [Bool.xor_comm]
    exact ⟨_, Is.word _ INF (Nat.le_refl _), Is.word _ INF (Nat.le_refl _)⟩
  obtain ⟨lo, hi, k2, rfl, _⟩ := H.num (by omega) (by omega) (by omega) (by omega)
  obtain ⟨lo', hi', k2', rfl, _⟩ := H'.num (by omega) (by omega) (by omega) (by omega)
  rw [Nat.mul_comm] at k2'
  obtain ⟨rfl, rfl⟩ := LoHi.unique (Rt_anti _ _ U_pos) k2 k2'
  rw [Bool.xor_comm]
  have b1 := k2.lo_lt
  have b2 := k2.hi_le
  exact ⟨_, Is.dn _ lo hi (by omega) b2, Is.dn _ lo hi (by omega) b2⟩
theorem mul_neg (s t : Bool) (r q D P D' P' : Nat) (H : MulSpec s r t q D P) (H' : MulSpec (!s) r t q D' P') : ∃ v, Is P' (-v) ∧ Is D v := by
  have hx : ((!s) ^^ t) = !(s ^^ t) := by cases s <;> cases t <;> rfl
  by_cases h0 : INF < r ∨ INF < q
  · obtain ⟨rfl, _⟩ := H.nan h0
    obtain ⟨_, rfl⟩ := H'.nan h0
    exact ⟨_, by rw [Int.neg_neg]; exact Is.allU, Is.allD⟩
  by_cases h1 : r = 0 ∨ q = 0
  · obtain ⟨rfl, _⟩ := H.zero (by omega) (by omega) h1
    obtain ⟨_, rfl⟩ := H'.zero (by omega) (by omega) h1
    exact ⟨0, Is.zero, Is.zero⟩
  by_cases h2 : r = INF ∨ q = INF
  · obtain ⟨rfl, _⟩ := H.inf (by omega) (by omega) (by omega) (by omega) h2
    obtain ⟨_, rfl⟩ := H'.inf (by omega) (by omega) (by omega) (by omega) h2
    rw [hx]
    exact ⟨_, by rw [← V_not]; exact Is.word _ INF (Nat.le_refl _), Is.word _ INF (Nat.le_refl _)⟩
  obtain ⟨lo, hi, k2, rfl, _⟩ := H.num (by omega) (by omega) (by omega) (by omega)
  obtain ⟨lo', hi', k2', _, rfl⟩ := H'.num (by omega) (by omega) (by omega) (by omega)
  obtain ⟨rfl, rfl⟩ := LoHi.unique (Rt_anti _ _ U_pos) k2 k2'
  rw [hx]
  have b1 := k2.lo_lt
  have b2 := k2.hi_le
  exact ⟨_, by rw [← dnV_upV]; exact Is.up _ lo hi (by omega) b2, Is.dn _ lo hi (by omega) b2⟩
/-- NEAR IS TRUE, WHATEVER THE TWO FLOATS. -/
theorem near_any (x y : Nat) (hx : x < 18446744073709551616) (hy : y < 18446744073709551616) (w : World) :
    Calls Try.prog 4 #[.float .f64 x, .float .f64 y] w fun e w' => e = .returned (.bool true) ∧ Below w.heap.size w w' := by
  obtain ⟨s, r, rfl, hr⟩ := W_cases x hx
  obtain ⟨t, q, rfl, hq⟩ := W_cases y hy
  obtain ⟨aD, aP, a1, a2⟩ := Add_any s t r q hr hq
  obtain ⟨mD, mP, m1, m2⟩ := Mul_any s t r q hr hq
  obtain ⟨dD, dP, d1, d2⟩ := Div_any s t r q hr hq
  obtain ⟨sD, sP, s1, s2⟩ := Sqrt_all s r hr
  obtain ⟨oa, na, A1, A2⟩ := own_run .add (.inl rfl) (W s r) (W t q)
  obtain ⟨om, nm, B1, B2⟩ := own_run .mul (.inr (.inl rfl)) (W s r) (W t q)
  obtain ⟨oq, nq, C1, C2⟩ := own_run .quo (.inr (.inr rfl)) (W s r) (W t q)
  obtain ⟨os, ns, E1, E2⟩ := sqrt_own (W s r)
  obtain ⟨bD, bP, b1, b2⟩ := Add_any t s q r hq hr
  obtain ⟨cD, cP, c1, c2⟩ := Mul_any t s q r hq hr
  obtain ⟨eD, eP, e1, e2⟩ := Add_any (!s) (!t) r q hr hq
  obtain ⟨fD, fP, f1, f2⟩ := Mul_any (!s) t r q hr hq
  obtain ⟨v0, p0, p0'⟩ := add_swap s t r q _ _ _ _ a1 b1
  obtain ⟨v1, p1, p1'⟩ := mul_swap s t r q _ _ _ _ m1 c1
  obtain ⟨v2, p2, p2'⟩ := add_neg s t r q _ _ _ _ a1 e1
  obtain ⟨v3, p3, p3'⟩ := mul_neg s t r q _ _ _ _ m1 f1
  obtain ⟨n0, g0, g0'⟩ := p2'.neg
  obtain ⟨n1, g1, g1'⟩ := p3'.neg
  exact near_walk (W s r) (W t q) (W (!s) r) (W (!t) q) aD mD dD sD aP mP dP sP na nm nq ns bD cD eP fP n0 n1 oa om oq os
    (AddDown_of _ _ _ _ a2) (MulDown_of _ _ _ _ m2) (DivDown_of _ _ _ _ d2) (SqrtDown_of _ _ _ s2)
    (AddUp_of _ _ _ _ a2) (MulUp_of _ _ _ _ m2) (DivUp_of _ _ _ _ d2) (SqrtUp_of _ _ _ s2)
    A1 B1 C1 E1
    (fun w => near_add s t r q _ _ hr hq a1 _ (A2 w)) (fun w => near_mul s t r q _ _ hr hq m1 _ (B2 w)) (fun w => near_div s t r q _ _ hr hq d1 _ (C2 w)) (fun w => near_sqrt s r _ _ hr s1 _ (E2 w))
    (unary_negF s r hr) (unary_negF t q hq)
    (AddDown_of _ _ _ _ b2) (MulDown_of _ _ _ _ c2) (AddUp_of _ _ _ _ e2) (MulUp_of _ _ _ _ f2) g0 g1
    (p0.eq p0') (p1.eq p1') (p2.eq g0') (p3.eq g1') w
end Go.Proofs.Ytacnclofbnafiaa
