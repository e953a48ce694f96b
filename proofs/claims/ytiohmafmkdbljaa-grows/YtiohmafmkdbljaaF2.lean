import Derived.Test.YtiohmafmkdbljaaF1
namespace Go.Proofs.Ytiohmafmkdbljaa.Fl
open Ieee

def EE : Nat := 1074
theorem EE_eq : EE = 1074 := rfl
/-- One, in units of 2^-1074. -/
def U : Nat := 2 ^ EE
theorem U_pos : 0 < U := Nat.two_pow_pos _
/-- The word of a sign and a rung, plainly. -/
def W (s : Bool) (r : Nat) : Nat := (if s then 9223372036854775808 else 0) + r
theorem word_W (s : Bool) (r : Nat) : double.word s r = W s r := word_eq s r
/-- What it is worth, in units of 2^-1074. -/
def V (s : Bool) (r : Nat) : Int := if s then -(M r : Int) else M r
def pl (r : Nat) : Int := -1074 + (r / 4503599627370496 - 1 : Nat)
theorem pl_ge (r : Nat) : -1074 ≤ pl r := by unfold pl; omega
theorem M_pl (r : Nat) : M r = mg r * 2 ^ (pl r + 1074).toNat := by
  unfold M pl; congr 2; omega

theorem W_cases (x : Nat) (h : x < 18446744073709551616) : ∃ s r, x = W s r ∧ r < 9223372036854775808 := by
  by_cases hx : x < 9223372036854775808
  · exact ⟨false, x, by simp [W], hx⟩
  · exact ⟨true, x - 9223372036854775808, by simp [W]; omega, by omega⟩

theorem W_inj {s t : Bool} {r q : Nat} (hr : r < 9223372036854775808) (hq : q < 9223372036854775808) (h : W s r = W t q) : s = t ∧ r = q := by
  unfold W at h
  cases s <;> cases t <;> simp at h ⊢ <;> omega

theorem neg_W (s : Bool) (r : Nat) (h : r < 9223372036854775808) : (W s r / double.signWeight % 2 == 1) = s := by
  have : double.signWeight = 9223372036854775808 := by decide
  rw [this]; unfold W
  cases s
  · have : r / 9223372036854775808 % 2 = 0 := by omega
    simp [this]
  · simp only [if_true]
    have : (9223372036854775808 + r) / 9223372036854775808 % 2 = 1 := by omega
    rw [this]; rfl
theorem rung_W (s : Bool) (r : Nat) (h : r < 9223372036854775808) : W s r % double.signWeight = r := by
  have : double.signWeight = 9223372036854775808 := by decide
  rw [this]; unfold W
  cases s <;> simp <;> omega

theorem read_fin (s : Bool) (r : Nat) (h : r < INF) : double.read (W s r) = .number s (mg r) (pl r) := by
  rw [INF_eq] at h
  unfold Format.read
  rw [neg_W s r (by omega), rung_W s r (by omega)]
  have hl : double.leastPlace = -1074 := by decide
  have hb : double.binade = 4503599627370496 := by decide
  have hi : double.infRung = 9218868437227405312 := by decide
  rw [hl, hb, hi]
  dsimp only
  by_cases h1 : r < 4503599627370496
  · rw [if_pos h1]
    unfold mg pl
    rw [if_pos h1]
    have : r / 4503599627370496 - 1 = 0 := by omega
    rw [this]; rfl
  · rw [if_neg h1, if_pos h]
    unfold mg pl
    rw [if_neg h1]
theorem read_inf (s : Bool) : double.read (W s INF) = .infinity s := by
  unfold Format.read
  rw [neg_W s INF (by decide), rung_W s INF (by decide)]
  have hb : double.binade = 4503599627370496 := by decide
  have hi : double.infRung = 9218868437227405312 := by decide
  rw [hb, hi, INF_eq]
  rfl
theorem read_nan (s : Bool) (r : Nat) (h : INF < r) (h' : r < 9223372036854775808) : double.read (W s r) = .nan s (r - INF) := by
  rw [INF_eq] at *
  unfold Format.read
  rw [neg_W s r (by omega), rung_W s r (by omega)]
  have hl : double.leastPlace = -1074 := by decide
  have hb : double.binade = 4503599627370496 := by decide
  have hi : double.infRung = 9218868437227405312 := by decide
  rw [hl, hb, hi]
  dsimp only
  rw [if_neg (by omega), if_neg (by omega), if_neg (by omega)]

theorem signed_eq (s : Bool) (m u : Nat) : signed s m u = if s then -((m * 2 ^ u : Nat) : Int) else ((m * 2 ^ u : Nat) : Int) := by
  unfold signed; rw [Nat.shiftLeft_eq]
theorem signed_shift (s : Bool) (m u v : Nat) : signed s m u * ((2 ^ v : Nat) : Int) = signed s m (u + v) := by
  rw [signed_eq, signed_eq, Nat.pow_add, ← Nat.mul_assoc]
  cases s
  · simp only [Bool.false_eq_true, if_false]; rw [Int.natCast_mul (m * 2 ^ u)]
  · simp only [if_true]; rw [Int.natCast_mul (m * 2 ^ u), Int.neg_mul]
theorem signed_V (s : Bool) (r : Nat) : signed s (mg r) (pl r + 1074).toNat = V s r := by
  rw [signed_eq, ← M_pl]; rfl

/-- The sign of what is exact. -/
def SgnOk (sg : Bool) (E : Int) : Prop := (E < 0 → sg = true) ∧ (0 < E → sg = false)

theorem Rt_scale {N D N' D' r : Nat} (hD' : 0 < D') (e : N * D' = N' * D) (h : Faith (Rt N D) r) : Faith (Rt N' D') r := by
  refine h.congr fun k _ => ?_
  unfold Rt
  constructor
  · intro h
    have h1 : M k * D' ≤ N' := by omega
    have h2 : M k * D ≤ N := by
      apply Nat.le_of_mul_le_mul_right (c := D') _ hD'
      rw [e, Nat.mul_right_comm]
      exact Nat.mul_le_mul_right _ h1
    omega
  · intro h
    have h1 : N' ≤ M k * D' := by omega
    have h2 : N ≤ M k * D := by
      apply Nat.le_of_mul_le_mul_right (c := D') _ hD'
      rw [e, Nat.mul_right_comm]
      exact Nat.mul_le_mul_right _ h1
    omega

/-- A sum of two numbers at places from p on, written. -/
theorem sum_num (p : Int) (s t : Bool) (m n : Nat) (i j : Int) (hi : p ≤ i) (hj : p ≤ j) (hp : p ≤ -1074) :
    ∃ sg z, ((Datum.number s m i).sum (.number t n j)).map double.write = some (W sg z)
      ∧ Faith (Rt (signed s m (i - p).toNat + signed t n (j - p).toNat).natAbs (2 ^ (-1074 - p).toNat)) z
      ∧ SgnOk sg (signed s m (i - p).toNat + signed t n (j - p).toNat)
      ∧ (signed s m (i - p).toNat + signed t n (j - p).toNat = 0 → sg = (s && t)) := by
  unfold Datum.sum
  dsimp only
  simp only [Option.map_some, Format.write]
  have e1 : signed s m (i - p).toNat = signed s m (i - min i j).toNat * ((2 ^ (min i j - p).toNat : Nat) : Int) := by
    rw [signed_shift]; congr 1; omega
  have e2 : signed t n (j - p).toNat = signed t n (j - min i j).toNat * ((2 ^ (min i j - p).toNat : Nat) : Int) := by
    rw [signed_shift]; congr 1; omega
  rw [e1, e2, ← Int.add_mul]
  generalize hT : signed s m (i - min i j).toNat + signed t n (j - min i j).toNat = T
  obtain ⟨z, hz, hf⟩ := nearest_faith (if T = 0 then s && t else decide (T < 0)) T.natAbs (min i j)
  have hpos : 0 < 2 ^ (min i j - p).toNat := Nat.two_pow_pos _
  refine ⟨_, z, by rw [hz, word_W], ?_, ?_, ?_⟩
  · refine Rt_scale (Nat.two_pow_pos _) ?_ hf
    rw [Int.natAbs_mul, Int.natAbs_natCast, Nat.mul_assoc, ← Nat.pow_add, Nat.mul_assoc, ← Nat.pow_add]
    congr 2
    omega
  · generalize (2 ^ (min i j - p).toNat) = c at hpos
    have hc : (0 : Int) < c := by omega
    constructor
    · intro h
      have : T < 0 := by
        rcases Int.lt_or_le T 0 with h' | h'
        · exact h'
        · have := Int.mul_nonneg h' (Int.le_of_lt hc); omega
      rw [if_neg (by omega)]; simp [this]
    · intro h
      have : 0 < T := by
        rcases Int.lt_or_le 0 T with h' | h'
        · exact h'
        · have := Int.mul_nonneg (show 0 ≤ -T by omega) (Int.le_of_lt hc); rw [Int.neg_mul] at this; omega
      rw [if_neg (by omega)]; simp; omega
  · intro h
    have : T = 0 := by
      rcases Int.mul_eq_zero.1 h with h | h
      · exact h
      · omega
    rw [if_pos this]

theorem add_fin (s t : Bool) (r q : Nat) (hr : r < INF) (hq : q < INF) :
    ∃ sg z, double.add (W s r) (W t q) = some (W sg z) ∧ Faith (Rt (V s r + V t q).natAbs 1) z ∧ SgnOk sg (V s r + V t q) ∧ (V s r + V t q = 0 → sg = (s && t)) := by
  unfold Format.add
  rw [read_fin s r hr, read_fin t q hq]
  obtain ⟨sg, z, h1, h2, h3, h4⟩ := sum_num (-1074) s t (mg r) (mg q) (pl r) (pl q) (pl_ge r) (pl_ge q) (by omega)
  have e : ∀ a : Int, a - -1074 = a + 1074 := fun a => by omega
  rw [e, e, signed_V, signed_V] at h2 h3 h4
  exact ⟨sg, z, h1, h2, h3, h4⟩

theorem V_not (s : Bool) (r : Nat) : V (!s) r = - V s r := by cases s <;> simp [V]

theorem sub_fin (s t : Bool) (r q : Nat) (hr : r < INF) (hq : q < INF) :
    ∃ sg z, double.sub (W s r) (W t q) = some (W sg z) ∧ Faith (Rt (V s r - V t q).natAbs 1) z ∧ SgnOk sg (V s r - V t q) ∧ (V s r - V t q = 0 → sg = (s && !t)) := by
  unfold Format.sub
  rw [read_fin s r hr, read_fin t q hq]
  obtain ⟨sg, z, h1, h2, h3, h4⟩ := sum_num (-1074) s (!t) (mg r) (mg q) (pl r) (pl q) (pl_ge r) (pl_ge q) (by omega)
  have e : ∀ a : Int, a - -1074 = a + 1074 := fun a => by omega
  rw [e, e, signed_V, signed_V, V_not, ← Int.sub_eq_add_neg] at h2 h3 h4
  exact ⟨sg, z, h1, h2, h3, h4⟩

theorem mul_fin (s t : Bool) (r q : Nat) (hr : r < INF) (hq : q < INF) :
    ∃ z, double.mul (W s r) (W t q) = some (W (s ^^ t) z) ∧ Faith (Rt (M r * M q) U) z := by
  unfold Format.mul
  rw [read_fin s r hr, read_fin t q hq]
  simp only [Datum.product, Option.map_some, Format.write]
  obtain ⟨z, hz, hf⟩ := nearest_faith (s ^^ t) (mg r * mg q) (pl r + pl q)
  refine ⟨z, by rw [hz, word_W], Rt_scale U_pos ?_ hf⟩
  rw [M_pl r, M_pl q]; unfold U
  have h1 := pl_ge r
  have h2 := pl_ge q
  have e : ∀ a b c d : Nat, a * b * (c * d) = a * c * (b * d) := Nat.mul_mul_mul_comm
  rw [e (mg r) _ (mg q), ← Nat.pow_add]
  have hE := EE_eq
  simp only [Nat.mul_assoc, ← Nat.pow_add]
  congr 3
  omega

theorem fma_fin (s t u : Bool) (r q c : Nat) (hr : r < INF) (hq : q < INF) (hc : c < INF) :
    ∃ sg z, double.fma (W s r) (W t q) (W u c) = some (W sg z) ∧ Faith (Rt (V s r * V t q + V u c * (U : Int)).natAbs U) z
      ∧ SgnOk sg (V s r * V t q + V u c * (U : Int)) := by
  unfold Format.fma
  rw [read_fin s r hr, read_fin t q hq, read_fin u c hc]
  have h1 := pl_ge r
  have h2 := pl_ge q
  have h3 := pl_ge c
  simp only [Datum.product, Option.bind_some]
  obtain ⟨sg, z, g1, g2, g3, _⟩ := sum_num (-2148) (s ^^ t) u (mg r * mg q) (mg c) (pl r + pl q) (pl c) (by omega) (by omega) (by omega)
  have e1 : signed (s ^^ t) (mg r * mg q) (pl r + pl q - -2148).toNat = V s r * V t q := by
    have e0 : (mg r * mg q) * 2 ^ (pl r + pl q - -2148).toNat = M r * M q := by
      rw [M_pl r, M_pl q]
      have e : ∀ a b c d : Nat, a * b * (c * d) = a * c * (b * d) := Nat.mul_mul_mul_comm
      rw [e (mg r) _ (mg q), ← Nat.pow_add]
      congr 2; omega
    rw [signed_eq, e0]; unfold V
    cases s <;> cases t <;> simp [Int.neg_mul, Int.mul_neg]
  have e2 : signed u (mg c) (pl c - -2148).toNat = V u c * (U : Int) := by
    rw [← signed_V]; unfold U; rw [signed_shift]; have hE := EE_eq; congr 1; omega
  rw [e1, e2] at g2 g3
  have hU : 2 ^ (-1074 - -2148 : Int).toNat = U := by unfold U; congr 1
  rw [hU] at g2
  exact ⟨sg, z, g1, g2, g3⟩

theorem order_fin (s t : Bool) (r q : Nat) (hr : r < INF) (hq : q < INF) : double.order (W s r) (W t q) = some (compare (V s r) (V t q)) := by
  unfold Format.order
  rw [read_fin s r hr, read_fin t q hq]
  unfold Datum.order
  dsimp only
  have h1 := pl_ge r
  have h2 := pl_ge q
  have e1 : V s r = signed s (mg r) (pl r - min (pl r) (pl q)).toNat * ((2 ^ (min (pl r) (pl q) + 1074).toNat : Nat) : Int) := by
    rw [signed_shift, ← signed_V]; congr 1; omega
  have e2 : V t q = signed t (mg q) (pl q - min (pl r) (pl q)).toNat * ((2 ^ (min (pl r) (pl q) + 1074).toNat : Nat) : Int) := by
    rw [signed_shift, ← signed_V]; congr 1; omega
  rw [e1, e2]
  have hp := Nat.two_pow_pos (min (pl r) (pl q) + 1074).toNat
  generalize (2 ^ (min (pl r) (pl q) + 1074).toNat) = c at hp
  generalize signed s (mg r) (pl r - min (pl r) (pl q)).toNat = A
  generalize signed t (mg q) (pl q - min (pl r) (pl q)).toNat = B
  have hc : (0 : Int) < c := by omega
  congr 1
  simp only [compare, compareOfLessAndEq]
  have i1 : A * c < B * c ↔ A < B := Int.mul_lt_mul_right hc
  have i2 : A * c = B * c ↔ A = B := Int.mul_eq_mul_right_iff (by omega)
  simp only [i1, i2]

theorem order_nan_l (s : Bool) (r x : Nat) (h : INF < r) (h' : r < 9223372036854775808) : double.order (W s r) x = none := by
  unfold Format.order; rw [read_nan s r h h']; rfl
theorem order_nan_r (s : Bool) (r x : Nat) (h : INF < r) (h' : r < 9223372036854775808) : double.order x (W s r) = none := by
  unfold Format.order; rw [read_nan s r h h']; cases double.read x <;> rfl
theorem order_inf_fin (s t : Bool) (q : Nat) (hq : q < INF) : double.order (W s INF) (W t q) = some (if s then .lt else .gt) := by
  unfold Format.order; rw [read_inf, read_fin t q hq]; rfl
theorem order_fin_inf (s t : Bool) (q : Nat) (hq : q < INF) : double.order (W t q) (W s INF) = some (if s then .gt else .lt) := by
  unfold Format.order; rw [read_inf, read_fin t q hq]; rfl
theorem order_inf_inf (s t : Bool) : double.order (W s INF) (W t INF) = some (compare t.toNat s.toNat) := by
  unfold Format.order; rw [read_inf, read_inf]; rfl
end Go.Proofs.Ytiohmafmkdbljaa.Fl
