import Derived.Test.YtiohmafmkdbljaaD2
namespace Go.Proofs.Ytiohmafmkdbljaa
open Fl

structure LinkE (sg : Bool) (E : Int → Int) (C : Nat → Int) : Prop where
  pos : sg = false → ∀ k, (0 ≤ E (V false k) ↔ 0 ≤ C (M k)) ∧ (E (V false k) ≤ 0 ↔ C (M k) ≤ 0)
  neg : sg = true → ∀ k, (0 ≤ E (V true k) ↔ C (M k) ≤ 0) ∧ (E (V true k) ≤ 0 ↔ 0 ≤ C (M k))
theorem lohi_ok {sg : Bool} {E : Int → Int} {C : Nat → Int} {lo hi : Nat} (hE : AntiI E) (L : LinkE sg E C) (h : LoHi C lo hi) : DownOk E (dnW sg lo hi) ∧ UpOk E (upW sg lo hi) := by
  have h1 := h.lo_lt
  have h2 := h.hi_le
  have hI1 : 1 < INF := by rw [INF_eq]; omega
  cases sg
  · have l := L.pos rfl
    constructor
    · right
      refine ⟨false, lo, rfl, h1, (l lo).1.2 h.lo_ok, ?_⟩
      by_cases e : lo + 1 = INF
      · exact .inl ⟨rfl, e⟩
      · right
        have e2 : ixI (abv false lo).1 (abv false lo).2 = ixI false (lo + 1) := by rw [ix_abv]; unfold ixI; simp
        rw [ix_eq e2]
        have := h.lo_next (by omega)
        rcases Int.lt_or_le (E (V false (lo + 1))) 0 with g | g
        · exact g
        · have := (l (lo + 1)).1.1 g; omega
    · by_cases e : hi = INF
      · left
        refine ⟨by unfold upW pw; simp [e]; omega, hi - 1, by omega, ?_⟩
        have := h.hi_prev (by omega)
        rcases Int.lt_or_le 0 (E (V false (hi - 1))) with g | g
        · exact g
        · have := (l (hi - 1)).2.1 g; omega
      · right
        refine ⟨false, hi, rfl, by omega, (l hi).2.2 (h.hi_ok (by omega)), .inr ?_⟩
        rcases Nat.eq_zero_or_pos hi with e0 | e0
        · subst e0
          have hc := h.hi_ok (by omega)
          have hz : E (V false 0) ≤ 0 := (l 0).2.2 hc
          have hlo : lo = 0 := by
            rcases Nat.eq_zero_or_pos lo with g | g
            · exact g
            · exfalso
              have k1 : 0 ≤ E (V false lo) := (l lo).1.2 h.lo_ok
              have k2 : V false 0 < V false lo := (V_lt_pos 0 lo).2 g
              have := hE.neg k2 hz
              omega
          have k1 : 0 ≤ E (V false lo) := (l lo).1.2 h.lo_ok
          rw [hlo] at k1
          refine hE _ (V false 0) (ix_val.1 ?_) k1
          rw [ix_blw]; omega
        · have e2 : ixI (blw false hi).1 (blw false hi).2 = ixI false (hi - 1) := by rw [ix_blw]; unfold ixI; simp; omega
          rw [ix_eq e2]
          have := h.hi_prev e0
          rcases Int.lt_or_le 0 (E (V false (hi - 1))) with g | g
          · exact g
          · have := (l (hi - 1)).2.1 g; omega
  · have l := L.neg rfl
    constructor
    · by_cases e : hi = INF
      · left
        refine ⟨by unfold dnW pw; simp [e]; omega, hi - 1, by omega, ?_⟩
        have := h.hi_prev (by omega)
        rcases Int.lt_or_le (E (V true (hi - 1))) 0 with g | g
        · exact g
        · have := (l (hi - 1)).1.1 g; omega
      · right
        refine ⟨true, hi, rfl, by omega, (l hi).1.2 (h.hi_ok (by omega)), .inr ?_⟩
        rcases Nat.eq_zero_or_pos hi with e0 | e0
        · subst e0
          have hc := h.hi_ok (by omega)
          have hz : 0 ≤ E (V true 0) := (l 0).1.2 hc
          have hlo : lo = 0 := by
            rcases Nat.eq_zero_or_pos lo with g | g
            · exact g
            · exfalso
              have k1 : E (V true lo) ≤ 0 := (l lo).2.2 h.lo_ok
              have k2 : V true lo < V true 0 := by rw [V_zero]; exact V_neg g
              have := hE _ _ k2 hz
              omega
          have k1 : E (V true lo) ≤ 0 := (l lo).2.2 h.lo_ok
          rw [hlo] at k1
          refine hE.neg (a := V true 0) (ix_val.1 ?_) k1
          rw [ix_abv]; omega
        · have e2 : ixI (abv true hi).1 (abv true hi).2 = ixI true (hi - 1) := by rw [ix_abv]; unfold ixI; simp; omega
          rw [ix_eq e2]
          have := h.hi_prev e0
          rcases Int.lt_or_le (E (V true (hi - 1))) 0 with g | g
          · exact g
          · have := (l (hi - 1)).1.1 g; omega
    · right
      refine ⟨true, lo, rfl, h1, (l lo).2.2 h.lo_ok, ?_⟩
      by_cases e : lo + 1 = INF
      · exact .inl ⟨rfl, e⟩
      · right
        have e2 : ixI (blw true lo).1 (blw true lo).2 = ixI true (lo + 1) := by rw [ix_blw]; unfold ixI; simp; omega
        rw [ix_eq e2]
        have := h.lo_next (by omega)
        rcases Int.lt_or_le 0 (E (V true (lo + 1))) with g | g
        · exact g
        · have := (l (lo + 1)).2.1 g; omega

-- the four
def Ep (A : Int) : Int → Int := fun v => A - v
def Et (A : Int) : Int → Int := fun v => A - v * (U : Int)
def Eo (t : Bool) (A B : Int) : Int → Int := fun v => if t then -(A - v * B) else A - v * B
def Er (A : Int) : Int → Int := fun v => if v < 0 then 1 else A - v * v
theorem Ep_anti (A : Int) : AntiI (Ep A) := by intro a b h h'; unfold Ep at *; omega
theorem Et_anti (A : Int) : AntiI (Et A) := by
  intro a b h h'
  unfold Et at *
  have := Int.mul_lt_mul_of_pos_right h (show (0 : Int) < U by have := U_pos; omega)
  omega
theorem Eo_anti (t : Bool) (A : Int) (q : Nat) (hq : 0 < q) : AntiI (Eo t A (V t q)) := by
  intro a b h h'
  have hm := M_pos hq
  have := Int.mul_lt_mul_of_pos_right h (show (0 : Int) < M q by omega)
  unfold Eo V at *
  cases t
  · simp only [Bool.false_eq_true, if_false] at *; omega
  · simp only [if_true, Int.mul_neg] at *; omega
theorem Er_anti (A : Int) : AntiI (Er A) := by
  intro a b h h'
  unfold Er at *
  by_cases ha : a < 0
  · rw [if_pos ha]; omega
  · rw [if_neg ha]
    rw [if_neg (by omega)] at h'
    have h1 : a * a < b * b := by
      have h2 : a * a ≤ a * b := Int.mul_le_mul_of_nonneg_left (by omega) (by omega)
      have h3 : a * b < b * b := Int.mul_lt_mul_of_pos_right h (by omega)
      omega
    omega
theorem link_p (sg : Bool) (A : Int) (h : SgnOk sg A) : LinkE sg (Ep A) (Rt A.natAbs 1) := by
  constructor
  · rintro rfl k
    have : 0 ≤ A := by rcases Int.lt_or_le A 0 with g | g
                       · have := h.1 g; simp at this
                       · exact g
    unfold Ep Rt V; simp; omega
  · rintro rfl k
    have : A ≤ 0 := by rcases Int.lt_or_le 0 A with g | g
                       · have := h.2 g; simp at this
                       · exact g
    unfold Ep Rt V; simp; omega
theorem link_t (s t : Bool) (r q : Nat) : LinkE (s ^^ t) (Et (V s r * V t q)) (Rt (M r * M q) U) := by
  constructor
  · intro h k
    have e : V s r * V t q = ((M r * M q : Nat) : Int) := by rw [V_mul, h]; rfl
    unfold Et Rt
    rw [e]
    have e2 : V false k * (U : Int) = ((M k * U : Nat) : Int) := by unfold V; rw [Int.natCast_mul]; rfl
    rw [e2]
    exact ⟨Iff.rfl, Iff.rfl⟩
  · intro h k
    have e : V s r * V t q = -((M r * M q : Nat) : Int) := by rw [V_mul, h]; rfl
    unfold Et Rt
    rw [e]
    have e2 : V true k * (U : Int) = -((M k * U : Nat) : Int) := by unfold V; rw [if_pos rfl, Int.neg_mul, Int.natCast_mul]
    rw [e2]
    omega
theorem link_o (s t : Bool) (r q : Nat) : LinkE (s ^^ t) (Eo t (V s r * (U : Int)) (V t q)) (Rt (M r * U) (M q)) := by
  have e1 : ∀ s : Bool, V s r * (U : Int) = if s then -((M r * U : Nat) : Int) else ((M r * U : Nat) : Int) := by
    intro s; unfold V; cases s
    · simp
    · simp [Int.neg_mul]
  constructor
  · intro h k
    unfold Eo Rt
    rw [V_mul, e1]
    cases s <;> cases t <;> simp at h ⊢ <;> omega
  · intro h k
    unfold Eo Rt
    rw [V_mul, e1]
    cases s <;> cases t <;> simp at h ⊢ <;> omega
theorem link_r (r : Nat) : LinkE false (Er (V false r * (U : Int))) (Sq (M r * U)) := by
  constructor
  · intro _ k
    have h0 : ¬ V false k < 0 := by unfold V; simp
    unfold Er Sq
    rw [if_neg h0]
    have e1 : V false r * (U : Int) = ((M r * U : Nat) : Int) := by unfold V; rw [Int.natCast_mul]; rfl
    have e2 : V false k * V false k = ((M k * M k : Nat) : Int) := by unfold V; rw [Int.natCast_mul]; rfl
    rw [e1, e2]
    exact ⟨Iff.rfl, Iff.rfl⟩
  · intro h; cases h
end Go.Proofs.Ytiohmafmkdbljaa
