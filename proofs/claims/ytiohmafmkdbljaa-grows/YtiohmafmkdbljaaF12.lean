import Derived.Test.YtiohmafmkdbljaaF11
namespace Go.Proofs.Ytiohmafmkdbljaa.Fl
open Ieee

theorem rep (e : Nat) : ∀ j : Nat, j ≤ 9007199254740992 → ∃ k, M k = j * 2 ^ e := by
  induction e with
  | zero => intro j hj; exact ⟨0 * 4503599627370496 + j, M_pack 0 j hj (.inr rfl)⟩
  | succ n ih =>
    intro j hj
    by_cases h : 4503599627370496 ≤ j
    · exact ⟨_, M_pack (n + 1) j hj (.inl h)⟩
    · obtain ⟨k, hk⟩ := ih (2 * j) (by omega)
      refine ⟨k, ?_⟩
      rw [hk, Nat.pow_succ, Nat.mul_comm 2 j, Nat.mul_assoc, Nat.mul_comm 2]
def ex (r : Nat) : Nat := r / 4503599627370496 - 1
theorem M_ex (r : Nat) : M r = mg r * 2 ^ ex r := rfl
theorem ex_le {x y : Nat} (h : y ≤ x) : ex y ≤ ex x := by unfold ex; omega
theorem M_lt_ex (r : Nat) : M r < 9007199254740992 * 2 ^ ex r := by
  rw [M_ex]; exact Nat.mul_lt_mul_of_pos_right (mg_lt r) (Nat.two_pow_pos _)
theorem diff_rep (x y : Nat) (h : y ≤ x) (hd : M x - M y ≤ 9007199254740992 * 2 ^ ex y) : ∃ k, M k = M x - M y := by
  have h1 := ex_le h
  have h2 : M x = (mg x * 2 ^ (ex x - ex y)) * 2 ^ ex y := by
    rw [M_ex x, Nat.mul_assoc, ← Nat.pow_add]; congr 2; omega
  have h3 : M x - M y = (mg x * 2 ^ (ex x - ex y) - mg y) * 2 ^ ex y := by
    rw [h2, M_ex y, Nat.sub_mul]
  rw [h3] at hd ⊢
  exact rep _ _ (Nat.le_of_mul_le_mul_right hd (Nat.two_pow_pos _))
/-- Twice. -/
theorem M_double (r : Nat) : ∃ k, r ≤ k ∧ M k = 2 * M r := by
  obtain ⟨k, hk⟩ := rep (ex r + 1) (mg r) (Nat.le_of_lt (mg_lt r))
  have : M k = 2 * M r := by rw [hk, M_ex, Nat.pow_succ, Nat.mul_comm _ 2, Nat.mul_left_comm]
  exact ⟨k, le_of_M (by omega), this⟩
theorem M_half (r : Nat) (h : 9007199254740992 ≤ r) : 2 * M (r - 4503599627370496) = M r ∧ ex r = ex (r - 4503599627370496) + 1 := by
  have h1 : ex r = ex (r - 4503599627370496) + 1 := by unfold ex; omega
  have h2 : mg (r - 4503599627370496) = mg r := by
    unfold mg; rw [if_neg (by omega), if_neg (by omega)]; omega
  refine ⟨?_, h1⟩
  rw [M_ex, M_ex r, h1, h2, Nat.pow_succ, Nat.mul_comm _ 2, Nat.mul_left_comm]

/-- THE GREATER ONE FIRST: the rounded sum less it is exact. -/
theorem fast_same (r q l : Nat) (hqr : q ≤ r) (hl : Faith (Rt (M r + M q) 1) l) (hlI : l < INF) : ∃ k, k < INF ∧ M k = M l - M r ∧ M r ≤ M l := by
  have hq := M_le hqr
  have h1 : r ≤ l ∨ INF < r := by
    rcases Nat.lt_or_ge INF r with h | h
    · exact .inr h
    · exact .inl ((hl.2 r h).1 ((Rt_nonneg _ _ _).2 (by omega)))
  have hrI : ¬ INF < r := by
    intro h
    have := (hl.2 INF (Nat.le_refl _)).1 ((Rt_nonneg _ _ _).2 (by have := M_lt h; omega))
    omega
  have h1 : r ≤ l := by omega
  obtain ⟨k2, hk2, hM2⟩ := M_double r
  have h2 : M l ≤ 2 * M r := by
    rw [← hM2]
    rcases Nat.lt_or_ge INF k2 with h | h
    · exact M_le (by omega)
    · exact M_le ((hl.2 k2 h).2 ((Rt_nonpos _ _ _).2 (by omega)))
  have h3 := M_lt_ex r
  have h4 := M_le h1
  obtain ⟨k, hk⟩ := diff_rep l r h1 (by omega)
  exact ⟨k, lt_of_M (by have := M_lt hlI; omega), hk, h4⟩
theorem fast_diff (r q l : Nat) (hqr : q < r) (hr : r < INF) (hl : Faith (Rt (M r - M q) 1) l) : ∃ k, k < INF ∧ M k = M r - M l ∧ M l ≤ M r := by
  have hq := M_lt hqr
  have h1 : l ≤ r := (hl.2 r (Nat.le_of_lt hr)).2 ((Rt_nonpos _ _ _).2 (by omega))
  have h2 := M_le h1
  have hMI := M_lt hr
  have fin : ∀ k, M k = M r - M l → k < INF := fun k hk => lt_of_M (by omega)
  by_cases hbig : M r ≤ 2 * M q
  · have h3 := M_lt_ex q
    obtain ⟨k, hk⟩ := diff_rep r q (Nat.le_of_lt hqr) (by omega)
    have hkI : k < INF := lt_of_M (by omega)
    have : l = k := hl.exact (Nat.le_of_lt hkI) (by unfold Rt; omega)
    refine ⟨q, by omega, ?_, h2⟩
    rw [this, hk]; omega
  · have h3 : M r - M l ≤ 9007199254740992 * 2 ^ ex l := by
      have h4 := M_lt_ex r
      by_cases he : ex r = ex l
      · rw [← he]; omega
      · have h5 := ex_le h1
        have h6 : 9007199254740992 ≤ r := by unfold ex at he h5; omega
        obtain ⟨h7, h8⟩ := M_half r h6
        have h9 := (hl.2 (r - 4503599627370496) (by omega)).1 ((Rt_nonneg _ _ _).2 (by omega))
        have h10 := M_le h9
        have h11 := ex_le h9
        have h12 : 2 ^ ex (r - 4503599627370496) ≤ 2 ^ ex l := Nat.pow_le_pow_right (by omega) h11
        have h13 := M_lt_ex (r - 4503599627370496)
        have h14 : 9007199254740992 * 2 ^ ex (r - 4503599627370496) ≤ 9007199254740992 * 2 ^ ex l := Nat.mul_le_mul_left _ h12
        omega
    obtain ⟨k, hk⟩ := diff_rep r l h1 h3
    exact ⟨k, fin k hk, hk, h2⟩

/-- What sumOf's tail is: a + b less the lead, where that is a number. -/
theorem fast_sum (s t : Bool) (r q : Nat) (hqr : q ≤ r) (hr : r < INF) (hq : q < INF) :
    ∃ sg l T, double.add (W s r) (W t q) = some (W sg l) ∧ Faith (Rt (V s r + V t q).natAbs 1) l ∧ SgnOk sg (V s r + V t q)
      ∧ (∃ d, double.sub (W sg l) (W s r) = some d ∧ double.sub (W t q) d = some T) ∧ double.order T T = some .eq
      ∧ ((l < INF ∧ double.order T 0 = some (compare (V s r + V t q - V sg l) 0)) ∨ (l = INF ∧ double.order T 0 = some (if sg then .gt else .lt))) := by
  obtain ⟨sg, l, h1, h2, h3, h4⟩ := add_fin s t r q hr hq
  rcases Nat.lt_or_eq_of_le h2.1 with hlI | hlI
  · -- the lead is a number
    have hex : ∃ k, k < INF ∧ M k = (V sg l - V s r).natAbs := by
      rcases Nat.lt_or_eq_of_le hqr with hlt | heq
      · have hM := M_lt hlt
        by_cases hst : s = t
        · subst hst
          have hE : (V s r + V s q).natAbs = M r + M q := by unfold V; cases s <;> simp <;> omega
          rw [hE] at h2
          have hsg : sg = s := by
            cases s
            · exact h3.2 (by unfold V; simp; omega)
            · exact h3.1 (by unfold V; simp; omega)
          subst hsg
          obtain ⟨k, hk, hMk, hle⟩ := fast_same r q l hqr h2 hlI
          refine ⟨k, hk, ?_⟩
          rw [hMk]; unfold V; cases sg <;> simp <;> omega
        · have ht : t = !s := by cases s <;> cases t <;> simp at hst ⊢
          subst ht
          have hE : (V s r + V (!s) q).natAbs = M r - M q := by unfold V; cases s <;> simp <;> omega
          rw [hE] at h2
          have hsg : sg = s := by
            cases s
            · exact h3.2 (by unfold V; simp; omega)
            · exact h3.1 (by unfold V; simp; omega)
          subst hsg
          obtain ⟨k, hk, hMk, hle⟩ := fast_diff r q l hlt hr h2
          refine ⟨k, hk, ?_⟩
          rw [hMk]; unfold V; cases sg <;> simp <;> omega
      · subst heq
        by_cases hst : s = t
        · subst hst
          have hE : (V s q + V s q).natAbs = M q + M q := by unfold V; cases s <;> simp <;> omega
          rw [hE] at h2
          rcases Nat.eq_zero_or_pos q with h0 | h0
          · subst h0
            have hl0 : l = 0 := h2.exact (Nat.zero_le _) (by unfold Rt; rw [M_zero]; simp)
            subst hl0
            exact ⟨0, hr, by rw [V_zero, V_zero, M_zero]; rfl⟩
          · have hM := M_pos h0
            have hsg : sg = s := by
              cases s
              · exact h3.2 (by unfold V; simp; omega)
              · exact h3.1 (by unfold V; simp; omega)
            subst hsg
            obtain ⟨k, hk, hMk, hle⟩ := fast_same q q l (Nat.le_refl _) h2 hlI
            refine ⟨k, hk, ?_⟩
            rw [hMk]; unfold V; cases sg <;> simp <;> omega
        · have ht : t = !s := by cases s <;> cases t <;> simp at hst ⊢
          subst ht
          have hE : (V s q + V (!s) q).natAbs = 0 := by unfold V; cases s <;> simp <;> omega
          rw [hE] at h2
          have hl0 : l = 0 := h2.exact (Nat.zero_le _) (by unfold Rt; rw [M_zero]; simp)
          subst hl0
          refine ⟨q, hq, ?_⟩
          rw [V_zero]; unfold V; cases s <;> simp
    obtain ⟨k, hk, hMk⟩ := hex
    obtain ⟨u, z1, g1, g2, g3, _⟩ := sub_fin sg s l r hlI hr
    have hz1 : z1 = k := g2.exact (Nat.le_of_lt hk) (by unfold Rt; rw [hMk]; omega)
    subst hz1
    have hV : V u z1 = V sg l - V s r := by
      rcases Int.lt_trichotomy (V sg l - V s r) 0 with h | h | h
      · rw [g3.1 h]; unfold V at *; simp; omega
      · have : z1 = 0 := by
          rw [h] at hMk
          rcases Nat.eq_zero_or_pos z1 with e | e
          · exact e
          · have := M_pos e; simp at hMk; omega
        subst this; rw [V_zero, h]
      · rw [g3.2 h]; unfold V at *; simp; omega
    obtain ⟨v, z2, k1, k2, k3, _⟩ := sub_fin t u q z1 hq hk
    rw [hV] at k2 k3
    have hEq : V t q - (V sg l - V s r) = V s r + V t q - V sg l := by omega
    rw [hEq] at k2 k3
    refine ⟨sg, l, W v z2, h1, h2, h3, ⟨_, g1, k1⟩, order_self v z2 k2.1, .inl ⟨hlI, ?_⟩⟩
    refine tail_order v z2 _ k2.1 (fun h => ?_) (fun h => ?_) k3
    · have := (k2.2 1 (by rw [INF_eq]; omega)).1 ((Rt_nonneg _ _ _).2 (by rw [M_one]; omega))
      omega
    · rw [h] at k2
      exact k2.exact (Nat.zero_le _) (by unfold Rt; rw [M_zero]; simp)
  · subst hlI
    refine ⟨sg, INF, W (!sg) INF, h1, h2, h3, ⟨_, sub_inf_l sg s r hr, sub_inf_r sg t q hq⟩, order_self _ _ (Nat.le_refl _), .inr ⟨rfl, ?_⟩⟩
    rw [order_zero_cmp (!sg) INF INF_pos (Nat.le_refl _)]; cases sg <;> rfl
end Go.Proofs.Ytiohmafmkdbljaa.Fl
