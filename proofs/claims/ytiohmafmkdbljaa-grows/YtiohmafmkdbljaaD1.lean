import Derived.Test.YtiohmafmkdbljaaF12
namespace Go.Proofs.Ytiohmafmkdbljaa.Fl

/-- What the first n digits are worth. -/
def dv (f : Nat → Int) : Nat → Int
  | 0 => 0
  | n + 1 => dv f n + f n * ((2 ^ (24 * n) : Nat) : Int)
theorem dv_zero : ∀ n, dv (fun _ => 0) n = 0
  | 0 => rfl
  | n + 1 => by unfold dv; rw [dv_zero n]; simp
/-- d more at digit q. -/
def upd (f : Nat → Int) (q : Nat) (d : Int) : Nat → Int := fun j => if j = q then f j + d else f j
theorem dv_upd_ge (f : Nat → Int) (q : Nat) (d : Int) : ∀ n, n ≤ q → dv (upd f q d) n = dv f n
  | 0, _ => rfl
  | n + 1, h => by
    unfold dv
    rw [dv_upd_ge f q d n (by omega)]
    unfold upd
    rw [if_neg (by omega)]
theorem dv_upd (f : Nat → Int) (q : Nat) (d : Int) : ∀ n, q < n → dv (upd f q d) n = dv f n + d * ((2 ^ (24 * q) : Nat) : Int)
  | 0, h => by omega
  | n + 1, h => by
    unfold dv
    by_cases e : q = n
    · subst e
      rw [dv_upd_ge f q d q (Nat.le_refl _)]
      unfold upd
      rw [if_pos rfl, Int.add_mul]; omega
    · rw [dv_upd f q d n (by omega)]
      have : upd f q d n = f n := by unfold upd; rw [if_neg (by omega)]
      rw [this]; omega
/-- One step: p times sh at digit q, in two digits. -/
theorem dv_step (f : Nat → Int) (q n : Nat) (st p sh : Int) (hq : q + 1 < n) :
    dv (upd (upd f q (st * (p % 16777216) * sh)) (q + 1) (st * (p / 16777216) * sh)) n = dv f n + st * p * sh * ((2 ^ (24 * q) : Nat) : Int) := by
  rw [dv_upd _ _ _ n hq, dv_upd _ _ _ n (by omega)]
  have e : ((2 ^ (24 * (q + 1)) : Nat) : Int) = 16777216 * ((2 ^ (24 * q) : Nat) : Int) := by
    rw [show 24 * (q + 1) = 24 + 24 * q by omega, Nat.pow_add, Int.natCast_mul]; rfl
  rw [e]
  generalize ((2 ^ (24 * q) : Nat) : Int) = A
  have h : p = 16777216 * (p / 16777216) + p % 16777216 := (Int.mul_ediv_add_emod p 16777216).symm
  generalize p / 16777216 = a at *
  generalize p % 16777216 = b at *
  rw [h]
  have e1 : st * a * sh * (16777216 * A) = st * (16777216 * a) * sh * A := by
    simp only [Int.mul_assoc, Int.mul_left_comm, Int.mul_comm]
  rw [e1, Int.mul_add, Int.add_mul, Int.add_mul]; omega
theorem upd_bd {f : Nat → Int} {q : Nat} {d K L : Int} (hf : ∀ j, -K ≤ f j ∧ f j ≤ K) (hd : -L ≤ d ∧ d ≤ L) (hL : 0 ≤ L) : ∀ j, -(K + L) ≤ upd f q d j ∧ upd f q d j ≤ K + L := by
  intro j
  have := hf j
  unfold upd; split <;> omega

/-- The sign, by digits: what is left below, and the carry. -/
structure SignInv (f : Nat → Int) (i : Nat) (c sg : Int) : Prop where
  rest : ∃ R : Int, 0 ≤ R ∧ R < ((2 ^ (24 * i) : Nat) : Int) ∧ dv f i = R + c * ((2 ^ (24 * i) : Nat) : Int) ∧ ((R = 0 ∧ sg = 0) ∨ (R ≠ 0 ∧ sg = 1))
theorem SignInv.zero (f : Nat → Int) : SignInv f 0 0 0 := ⟨0, by omega, by simp, by simp [dv], .inl ⟨rfl, rfl⟩⟩
theorem SignInv.next {f : Nat → Int} {i : Nat} {c sg : Int} (h : SignInv f i c sg) :
    SignInv f (i + 1) ((f i + c) / 16777216) (if (f i + c) % 16777216 = 0 then sg else 1) := by
  obtain ⟨R, h1, h2, h3, h4⟩ := h.rest
  have e : ((2 ^ (24 * (i + 1)) : Nat) : Int) = 16777216 * ((2 ^ (24 * i) : Nat) : Int) := by
    rw [show 24 * (i + 1) = 24 + 24 * i by omega, Nat.pow_add, Int.natCast_mul]; rfl
  have hp : (0 : Int) < ((2 ^ (24 * i) : Nat) : Int) := by have := Nat.two_pow_pos (24 * i); omega
  have hv : f i + c = 16777216 * ((f i + c) / 16777216) + (f i + c) % 16777216 := (Int.mul_ediv_add_emod _ _).symm
  have hr0 : 0 ≤ (f i + c) % 16777216 := Int.emod_nonneg _ (by omega)
  have hr1 : (f i + c) % 16777216 < 16777216 := Int.emod_lt_of_pos _ (by omega)
  generalize (f i + c) / 16777216 = a at *
  generalize (f i + c) % 16777216 = r at *
  have hd : dv f (i + 1) = dv f i + f i * ((2 ^ (24 * i) : Nat) : Int) := rfl
  generalize ((2 ^ (24 * i) : Nat) : Int) = A at *
  have hrA : r * A ≤ 16777215 * A := Int.mul_le_mul_of_nonneg_right (by omega) (by omega)
  have hrA0 : 0 ≤ r * A := Int.mul_nonneg hr0 (by omega)
  refine ⟨R + r * A, by omega, by rw [e]; omega, ?_, ?_⟩
  · rw [hd, h3, e]
    have hfc : f i = 16777216 * a + r - c := by omega
    rw [hfc]
    have e1 : a * (16777216 * A) = 16777216 * a * A := by rw [Int.mul_left_comm, Int.mul_assoc]
    rw [e1, Int.sub_mul, Int.add_mul]; omega
  · by_cases hr : r = 0
    · subst hr
      rw [if_pos rfl, Int.zero_mul, Int.add_zero]
      exact h4
    · rw [if_neg hr]
      right
      have : A ≤ r * A := by
        have := Int.mul_le_mul_of_nonneg_right (show (1 : Int) ≤ r by omega) (show (0 : Int) ≤ A by omega)
        omega
      exact ⟨by omega, rfl⟩
theorem SignInv.done {f : Nat → Int} {i : Nat} {c sg : Int} (h : SignInv f i c sg) (hb : dv f i < ((2 ^ (24 * i) : Nat) : Int)) : (if c < 0 then -1 else sg) = (dv f i).sign := by
  obtain ⟨R, h1, h2, h3, h4⟩ := h.rest
  have hp : (0 : Int) < ((2 ^ (24 * i) : Nat) : Int) := by have := Nat.two_pow_pos (24 * i); omega
  generalize ((2 ^ (24 * i) : Nat) : Int) = A at *
  by_cases hc : c < 0
  · rw [if_pos hc]
    have : c * A ≤ -1 * A := Int.mul_le_mul_of_nonneg_right (by omega) (by omega)
    exact (Int.sign_eq_neg_one_iff_neg.2 (by omega)).symm
  · rw [if_neg hc]
    have hc0 : c = 0 := by
      rcases Int.lt_or_le 0 c with g | g
      · have : 1 * A ≤ c * A := Int.mul_le_mul_of_nonneg_right (by omega) (by omega)
        omega
      · omega
    subst hc0
    rw [Int.zero_mul, Int.add_zero] at h3
    rw [h3]
    rcases h4 with ⟨h5, h6⟩ | ⟨h5, h6⟩
    · rw [h5, h6]; rfl
    · rw [h6]; exact (Int.sign_eq_one_iff_pos.2 (by omega)).symm
/-- Go's quotient and remainder, mended. -/
theorem go_div (v : Int) : (v.tmod 16777216 < 0 → v.tmod 16777216 + 16777216 = v % 16777216 ∧ v.tdiv 16777216 - 1 = v / 16777216)
    ∧ (¬ v.tmod 16777216 < 0 → v.tmod 16777216 = v % 16777216 ∧ v.tdiv 16777216 = v / 16777216) := by
  have h1 := Int.tmod_add_mul_tdiv v 16777216
  have h2 := Int.emod_add_mul_ediv v 16777216
  have h3 : 0 ≤ v % 16777216 := Int.emod_nonneg _ (by omega)
  have h4 : v % 16777216 < 16777216 := Int.emod_lt_of_pos _ (by omega)
  have h5 : v.tmod 16777216 < 16777216 := Int.tmod_lt_of_pos _ (by omega)
  have h6 : -16777216 < v.tmod 16777216 := by
    have := Int.tmod_lt_of_pos (-v) (show (0 : Int) < 16777216 by omega)
    rw [Int.neg_tmod] at this; omega
  generalize v.tmod 16777216 = a at *
  generalize v.tdiv 16777216 = b at *
  generalize v % 16777216 = c at *
  generalize v / 16777216 = d at *
  omega
end Go.Proofs.Ytiohmafmkdbljaa.Fl
