import Derived.Test.YtiohmafmkdbljaaF6
namespace Go.Proofs.Ytiohmafmkdbljaa.Fl
open Ieee

/-- The sign falls: a cut. -/
def Anti (C : Nat → Int) : Prop := ∀ a b, a < b → 0 ≤ C b → 0 < C a
theorem Anti.neg {C : Nat → Int} (h : Anti C) {a b : Nat} (hab : a < b) (ha : C a ≤ 0) : C b < 0 := by
  rcases Int.lt_or_le (C b) 0 with h' | h'
  · exact h'
  · have := h a b hab h'; omega

/-- The rung below and the rung above what is exact. -/
structure LoHi (C : Nat → Int) (lo hi : Nat) : Prop where
  lo_lt : lo < INF
  hi_le : hi ≤ INF
  lo_ok : 0 ≤ C (M lo)
  lo_next : lo + 1 < INF → C (M (lo + 1)) < 0
  hi_ok : hi < INF → C (M hi) ≤ 0
  hi_prev : 0 < hi → 0 < C (M (hi - 1))

theorem LoHi.unique {C : Nat → Int} (hC : Anti C) {lo hi lo' hi' : Nat} (h : LoHi C lo hi) (h' : LoHi C lo' hi') : lo = lo' ∧ hi = hi' := by
  have aux : ∀ {lo hi lo' hi' : Nat}, LoHi C lo hi → LoHi C lo' hi' → lo ≤ lo' := by
    intro lo hi lo' hi' h h'
    rcases Nat.lt_or_ge lo' lo with g | g
    · have h1 := h.lo_lt
      have h2 := h'.lo_next (by omega)
      rcases Nat.lt_or_eq_of_le (show lo' + 1 ≤ lo by omega) with e | e
      · have := hC _ _ (M_lt e) h.lo_ok; omega
      · have := h.lo_ok; rw [← e] at this; omega
    · exact g
  have aux2 : ∀ {lo hi lo' hi' : Nat}, LoHi C lo hi → LoHi C lo' hi' → hi ≤ hi' := by
    intro lo hi lo' hi' h h'
    rcases Nat.lt_or_ge hi' hi with g | g
    · have h1 := h.hi_prev (by omega)
      have h2 := h'.hi_ok (by have := h.hi_le; omega)
      rcases Nat.lt_or_eq_of_le (show hi' ≤ hi - 1 by omega) with e | e
      · have := hC.neg (M_lt e) h2; omega
      · rw [← e] at h1; omega
    · exact g
  exact ⟨Nat.le_antisymm (aux h h') (aux h' h), Nat.le_antisymm (aux2 h h') (aux2 h' h)⟩

theorem INF_pos : 0 < INF := by rw [INF_eq]; omega
theorem INF_lt : INF < 9223372036854775808 := by rw [INF_eq]; omega
/-- OF A NEIGHBOUR, AND ON WHICH SIDE IT LIES, THE TWO RUNGS. 'm': the sign of what is exact less the neighbour; of infinity -1. -/
theorem LoHi.of_near {C : Nat → Int} {z : Nat} (m : Int) (hz : Faith C z) (h0 : 0 ≤ C 0)
    (hi : z = INF → m < 0) (hp : z < INF → 0 < m → 0 < C (M z)) (hq : z < INF → m < 0 → C (M z) < 0) (hr : z < INF → m = 0 → C (M z) = 0) :
    LoHi C (if m < 0 then z - 1 else z) (if 0 < m then z + 1 else z) := by
  obtain ⟨h1, h2⟩ := hz
  have hne : ∀ k, k ≤ INF → k < z → 0 < C (M k) := by
    intro k hk hkz
    rcases Int.lt_or_le 0 (C (M k)) with g | g
    · exact g
    · have := (h2 k hk).2 g; omega
  have hne' : ∀ k, k ≤ INF → z < k → C (M k) < 0 := by
    intro k hk hkz
    rcases Int.lt_or_le (C (M k)) 0 with g | g
    · exact g
    · have := (h2 k hk).1 g; omega
  rcases Int.lt_trichotomy m 0 with hm | hm | hm
  · have hz0 : 0 < z := by
      rcases Nat.eq_zero_or_pos z with e | e
      · subst e
        have := hq INF_pos hm
        rw [M_zero] at this; omega
      · exact e
    rw [if_pos hm, if_neg (by omega)]
    exact ⟨by omega, h1, Int.le_of_lt (hne _ (by omega) (by omega)), fun h => by
      rw [show z - 1 + 1 = z by omega] at h ⊢; exact hq h hm, fun h => Int.le_of_lt (hq h hm), fun _ => hne _ (by omega) (by omega)⟩
  · have hzI : z < INF := by
      rcases Nat.lt_or_eq_of_le h1 with e | e
      · exact e
      · have := hi e; omega
    have h3 := hr hzI hm
    rw [if_neg (by omega), if_neg (by omega)]
    exact ⟨hzI, h1, by omega, fun h => hne' _ (by omega) (by omega), fun _ => by omega, fun h => hne _ (by omega) (by omega)⟩
  · have hzI : z < INF := by
      rcases Nat.lt_or_eq_of_le h1 with e | e
      · exact e
      · have := hi e; omega
    have h3 := hp hzI hm
    rw [if_neg (by omega), if_pos hm]
    exact ⟨hzI, by omega, by omega, fun h => hne' _ (by omega) (by omega), fun h => Int.le_of_lt (hne' _ (by omega) (by omega)), fun _ => by
      rw [show z + 1 - 1 = z by omega]; exact h3⟩

/-- What is exact, at the scale of a fraction (C') and at its own (C): 2^n lies between. -/
structure Scaled (C C' : Nat → Int) (n : Int) (l : Nat) : Prop where
  anti : Anti C
  anti' : Anti C'
  pos : 0 < C 0
  near : Faith C' l
  low : 9007199254740992 < M (l - 1)
  top : l + 1 < INF
  link : ∀ v v' : Nat, v' * 2 ^ n.toNat = v * 2 ^ (-n).toNat → (0 ≤ C v ↔ 0 ≤ C' v') ∧ (C v ≤ 0 ↔ C' v' ≤ 0)

/-- What a rung is at the scale of the fraction. -/
theorem at_scale (k : Nat) (n : Int) (h0 : 0 < k) (hE : 0 ≤ fe k + 1021 - n) : mant k * 2 ^ (fe k + 1021 - n).toNat * 2 ^ n.toNat = M k * 2 ^ (-n).toNat := by
  have h := M_fe k h0
  rw [Nat.mul_assoc, ← Nat.pow_add]
  exact (pow_eq (mant k) (M k) _ _ _ _ (by omega)).1 h.symm
theorem below_scale (k : Nat) (n : Int) (h0 : 0 < k) (hE : fe k + 1021 - n < 0) : mant k * 2 ^ n.toNat = M k * 2 ^ (-(fe k + 1021 - n)).toNat * 2 ^ (-n).toNat := by
  have h := M_fe k h0
  rw [Nat.mul_assoc, ← Nat.pow_add]
  exact (pow_eq (mant k) (M k) _ _ _ _ (by omega)).1 h.symm
/-- A rung for 53 digits at an exponent, or they are too great. -/
theorem rung_of (k E : Nat) : (∃ j, j < INF ∧ M j = mant k * 2 ^ E) ∨ M INF ≤ mant k * 2 ^ E := by
  have h1 := mant_lt k
  have h2 := mant_ge k
  by_cases hE : E < 2046
  · left
    exact ⟨E * 4503599627370496 + mant k, by rw [INF_eq]; omega, M_pack _ _ (by omega) (by omega)⟩
  · right
    obtain ⟨e, he⟩ : ∃ e : Nat, e = 2046 := ⟨_, rfl⟩
    rw [M_INF e he]
    exact Nat.mul_le_mul h2 (Nat.pow_le_pow_right (by omega) (by omega))

theorem pow_mul_lt {x y p : Nat} (h : x < y) : x * 2 ^ p < y * 2 ^ p := Nat.mul_lt_mul_of_pos_right h (Nat.two_pow_pos _)

theorem Scaled.lt_low {C C' : Nat → Int} {n : Int} {l : Nat} (H : Scaled C C' n l) : M (l - 1) < M l := by
  have h := H.low
  rcases Nat.eq_zero_or_pos l with e | e
  · subst e; rw [M_zero] at h; omega
  · exact M_lt (by omega)
theorem Scaled.low_pos {C C' : Nat → Int} {n : Int} {l : Nat} (H : Scaled C C' n l) : 0 < C' (M (l - 1)) := by
  have h1 := H.near
  have h2 := lt_of_M H.lt_low
  rcases Int.lt_or_le 0 (C' (M (l - 1))) with g | g
  · exact g
  · have := (h1.2 (l - 1) (by have := H.top; omega)).2 g; omega
theorem Scaled.top_neg {C C' : Nat → Int} {n : Int} {l : Nat} (H : Scaled C C' n l) : C' (M (l + 1)) < 0 := by
  have h1 := H.near
  rcases Int.lt_or_le (C' (M (l + 1))) 0 with g | g
  · exact g
  · have := (h1.2 (l + 1) (by have := H.top; omega)).1 g; omega

theorem Scaled.up {C C' : Nat → Int} {n : Int} {l : Nat} (H : Scaled C C' n l) (k : Nat) (h : 0 ≤ C (M k)) : M k * 2 ^ (-n).toNat ≤ M l * 2 ^ n.toNat := by
  rcases Nat.eq_zero_or_pos k with e | h0
  · subst e; rw [M_zero, Nat.zero_mul]; exact Nat.zero_le _
  rcases Int.lt_or_le (fe k + 1021 - n) 0 with hE | hE
  · have h1 := below_scale k n h0 hE
    have h2 := mant_lt k
    have h3 := H.low
    have h4 := H.lt_low
    have h5 : M k * 2 ^ (-n).toNat ≤ M k * 2 ^ (-(fe k + 1021 - n)).toNat * 2 ^ (-n).toNat := by
      refine Nat.mul_le_mul_right _ (Nat.le_mul_of_pos_right _ (Nat.two_pow_pos _))
    have h6 : mant k * 2 ^ n.toNat ≤ M l * 2 ^ n.toNat := Nat.mul_le_mul_right _ (by omega)
    omega
  · have h1 := at_scale k n h0 hE
    rw [← h1]
    refine Nat.mul_le_mul_right _ ?_
    have h2 := ((H.link _ _ h1).1).1 h
    rcases rung_of k (fe k + 1021 - n).toNat with ⟨j, hj, hM⟩ | hM
    · rw [← hM] at h2 ⊢
      exact M_le ((H.near.2 j (by omega)).1 h2)
    · exfalso
      have h3 := M_lt H.top
      have h4 := H.anti' _ _ (Nat.lt_of_lt_of_le h3 hM) h2
      have := H.top_neg
      omega
theorem Scaled.down {C C' : Nat → Int} {n : Int} {l : Nat} (H : Scaled C C' n l) (k : Nat) (h : C (M k) ≤ 0) : M l * 2 ^ n.toNat ≤ M k * 2 ^ (-n).toNat := by
  rcases Nat.eq_zero_or_pos k with e | h0
  · subst e; rw [M_zero] at h; have := H.pos; omega
  rcases Int.lt_or_le (fe k + 1021 - n) 0 with hE | hE
  · exfalso
    have h1 := below_scale k n h0 hE
    have h2 := mant_lt k
    have h3 := H.low
    have h5 := M_pos h0
    have h4 : M k < M k * 2 ^ (-(fe k + 1021 - n)).toNat := by
      have : 2 ^ 1 ≤ 2 ^ (-(fe k + 1021 - n)).toNat := Nat.pow_le_pow_right (by omega) (by omega)
      have := Nat.mul_le_mul_left (M k) this
      omega
    have h6 := H.anti.neg h4 h
    have h7 := ((H.link _ _ h1).2).1 (Int.le_of_lt h6)
    have h8 := H.anti' (mant k) _ (by omega : mant k < M (l - 1)) (Int.le_of_lt H.low_pos)
    omega
  · have h1 := at_scale k n h0 hE
    rw [← h1]
    refine Nat.mul_le_mul_right _ ?_
    have h2 := ((H.link _ _ h1).2).1 h
    rcases rung_of k (fe k + 1021 - n).toNat with ⟨j, hj, hM⟩ | hM
    · rw [← hM] at h2 ⊢
      exact M_le ((H.near.2 j (by omega)).2 h2)
    · have h3 := M_lt (show l < INF by have := H.top; omega)
      omega

/-- THE SCALED FRACTION's NEIGHBOUR IS ONE OF WHAT IS EXACT. -/
theorem Scaled.faith {C C' : Nat → Int} {n : Int} {l z : Nat} (H : Scaled C C' n l) (hz : LdOk l n z) : Faith C z := by
  obtain ⟨h1, h2⟩ := hz
  exact ⟨h1, fun k hk => ⟨fun h => (h2 k hk).1 ((Rt_nonneg _ _ _).2 (H.up k h)), fun h => (h2 k hk).2 ((Rt_nonpos _ _ _).2 (H.down k h))⟩⟩

/-- THE SIDE: the fraction against what the neighbour is at its scale. -/
theorem Scaled.side_gt {C C' : Nat → Int} {n : Int} {l z y : Nat} (H : Scaled C C' n l) (hy : LdOk z (-n) y) (h : y < l) : 0 < C (M z) := by
  rcases Int.lt_or_le 0 (C (M z)) with g | g
  · exact g
  · exfalso
    have h1 := H.down z g
    have h2 := (hy.2 l (by have := H.top; omega)).1 ((Rt_nonneg _ _ _).2 (by rwa [Int.neg_neg]))
    omega
theorem Scaled.side_lt {C C' : Nat → Int} {n : Int} {l z y : Nat} (H : Scaled C C' n l) (hy : LdOk z (-n) y) (h : l < y) : C (M z) < 0 := by
  rcases Int.lt_or_le (C (M z)) 0 with g | g
  · exact g
  · exfalso
    have h1 := H.up z g
    have h2 := (hy.2 l (by have := H.top; omega)).2 ((Rt_nonpos _ _ _).2 (by rwa [Int.neg_neg]))
    omega
theorem Scaled.side_eq {C C' : Nat → Int} {n : Int} {l z y : Nat} (H : Scaled C C' n l) (h0 : 0 < z) (hy : LdOk z (-n) y) (h : l = y) :
    (0 ≤ C (M z) ↔ 0 ≤ C' (M l)) ∧ (C (M z) ≤ 0 ↔ C' (M l) ≤ 0) := by
  refine H.link _ _ ?_
  have hl := H.low
  have hlt := H.lt_low
  have htop := H.top
  subst h
  unfold LdOk at hy
  rw [Int.neg_neg] at hy
  rcases Int.lt_or_le (fe z + 1021 - n) 0 with hE | hE
  · exfalso
    have h1 := below_scale z n h0 hE
    have h2 := mant_lt z
    have h5 : M z * 2 ^ (-n).toNat ≤ M z * 2 ^ (-(fe z + 1021 - n)).toNat * 2 ^ (-n).toNat := by
      refine Nat.mul_le_mul_right _ (Nat.le_mul_of_pos_right _ (Nat.two_pow_pos _))
    have h6 : mant z * 2 ^ n.toNat ≤ M (l - 1) * 2 ^ n.toNat := Nat.mul_le_mul_right _ (by omega)
    have h7 := (hy.2 (l - 1) (by omega)).2 ((Rt_nonpos _ _ _).2 (by omega))
    have := lt_of_M hlt
    omega
  · have h1 := at_scale z n h0 hE
    rcases rung_of z (fe z + 1021 - n).toNat with ⟨j, hj, hM⟩ | hM
    · rw [← hM] at h1
      have : l = j := hy.exact (Nat.le_of_lt hj) (by unfold Rt; rw [← h1]; omega)
      rw [this]; exact h1
    · exfalso
      have h3 : M INF * 2 ^ n.toNat ≤ M z * 2 ^ (-n).toNat := by rw [← h1]; exact Nat.mul_le_mul_right _ hM
      have := (hy.2 INF (Nat.le_refl _)).1 ((Rt_nonneg _ _ _).2 h3)
      omega
end Go.Proofs.Ytiohmafmkdbljaa.Fl
