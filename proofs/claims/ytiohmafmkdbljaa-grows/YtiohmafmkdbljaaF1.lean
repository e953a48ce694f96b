import Ieee.Arith
import Derived.Laws.FloatBits
namespace Go.Proofs.Ytiohmafmkdbljaa.Fl
open Ieee

/-- What a rung is worth, in units of 2^-1074. -/
def mg (r : Nat) : Nat := if r < 4503599627370496 then r else 4503599627370496 + r % 4503599627370496
def M (r : Nat) : Nat := mg r * 2 ^ (r / 4503599627370496 - 1)
/-- The rung of infinity. -/
def INF : Nat := 9218868437227405312
theorem INF_eq : INF = 9218868437227405312 := rfl

theorem M_pack (e m : Nat) (h : m ≤ 9007199254740992) (h' : 4503599627370496 ≤ m ∨ e = 0) : M (e * 4503599627370496 + m) = m * 2 ^ e := by
  unfold M mg
  by_cases hm : m < 4503599627370496
  · have he : e = 0 := by omega
    subst he
    rw [if_pos (by omega)]
    have : (0 * 4503599627370496 + m) / 4503599627370496 - 1 = 0 := by omega
    rw [this]; simp
  · by_cases h2 : m = 9007199254740992
    · subst h2
      rw [if_neg (by omega)]
      have a : (e * 4503599627370496 + 9007199254740992) % 4503599627370496 = 0 := by omega
      have b : (e * 4503599627370496 + 9007199254740992) / 4503599627370496 - 1 = e + 1 := by omega
      rw [a, b, Nat.pow_succ]; omega
    · rw [if_neg (by omega)]
      have a : 4503599627370496 + (e * 4503599627370496 + m) % 4503599627370496 = m := by omega
      have b : (e * 4503599627370496 + m) / 4503599627370496 - 1 = e := by omega
      rw [a, b]

theorem mg_lt (r : Nat) : mg r < 9007199254740992 := by unfold mg; split <;> omega
theorem mg_ge (r : Nat) (h : 4503599627370496 ≤ r) : 4503599627370496 ≤ mg r := by unfold mg; split <;> omega
theorem rung_eq (r : Nat) : r = (r / 4503599627370496 - 1) * 4503599627370496 + mg r := by unfold mg; split <;> omega

theorem M_succ (r : Nat) : M (r + 1) = M r + 2 ^ (r / 4503599627370496 - 1) := by
  have h1 := rung_eq r
  have h2 := mg_lt r
  have h3 : 4503599627370496 ≤ mg r ∨ r / 4503599627370496 - 1 = 0 := by
    by_cases h : 4503599627370496 ≤ r
    · exact .inl (mg_ge r h)
    · right; omega
  have h4 : r + 1 = (r / 4503599627370496 - 1) * 4503599627370496 + (mg r + 1) := by omega
  rw [h4, M_pack _ _ (by omega) (by omega)]
  unfold M
  rw [Nat.succ_mul]

theorem M_lt_succ (r : Nat) : M r < M (r + 1) := by
  rw [M_succ]; have := Nat.two_pow_pos (r / 4503599627370496 - 1); omega

theorem M_lt {a b : Nat} (h : a < b) : M a < M b := by
  induction b with
  | zero => omega
  | succ n ih =>
    by_cases e : a = n
    · subst e; exact M_lt_succ a
    · exact Nat.lt_trans (ih (by omega)) (M_lt_succ n)
theorem M_le {a b : Nat} (h : a ≤ b) : M a ≤ M b := by
  rcases Nat.lt_or_eq_of_le h with h | h
  · exact Nat.le_of_lt (M_lt h)
  · subst h; exact Nat.le_refl _
theorem lt_of_M {a b : Nat} (h : M a < M b) : a < b := by
  rcases Nat.lt_or_ge a b with h' | h'
  · exact h'
  · have := M_le h'; omega
theorem le_of_M {a b : Nat} (h : M a ≤ M b) : a ≤ b := by
  rcases Nat.lt_or_ge b a with h' | h'
  · have := M_lt h'; omega
  · exact h'
theorem M_inj {a b : Nat} (h : M a = M b) : a = b := Nat.le_antisymm (le_of_M (by omega)) (le_of_M (by omega))
theorem M_zero : M 0 = 0 := by simp [M, mg]
theorem M_pos {r : Nat} (h : 0 < r) : 0 < M r := by have := M_lt h; omega
theorem M_one : M 1 = 1 := by simp [M, mg]

/-- 'C v': the sign of what is exact less v. 'r' is one of its two neighbours (or it). -/
def Faith (C : Nat → Int) (r : Nat) : Prop := r ≤ INF ∧ ∀ k, k ≤ INF → (0 ≤ C (M k) → k ≤ r) ∧ (C (M k) ≤ 0 → r ≤ k)

theorem Faith.congr {C D : Nat → Int} {r : Nat} (h : Faith C r) (e : ∀ k, k ≤ INF → (0 ≤ D (M k) → 0 ≤ C (M k)) ∧ (D (M k) ≤ 0 → C (M k) ≤ 0)) : Faith D r :=
  ⟨h.1, fun k hk => ⟨fun a => (h.2 k hk).1 ((e k hk).1 a), fun a => (h.2 k hk).2 ((e k hk).2 a)⟩⟩

/-- A ratio. -/
def Rt (N D : Nat) : Nat → Int := fun v => (N : Int) - (v * D : Nat)

theorem cut_even (neg : Bool) (n drop : Nat) : ∃ c : Nat, Toward.even.cut neg n drop = n / 2 ^ drop + c ∧ c ≤ 1 ∧ (c = 1 → n % 2 ^ drop ≠ 0) := by
  unfold Toward.cut
  dsimp only
  rw [Nat.one_shiftLeft]
  by_cases hd : drop ≤ n.log2 + 2
  · rw [Nat.min_eq_left hd]
    refine ⟨_, rfl, ?_, ?_⟩
    · exact Bool.toNat_le _
    · intro h hz
      rw [hz] at h
      have hp := Nat.two_pow_pos drop
      have : (decide (2 ^ drop < 2 * 0) || (2 ^ drop == 2 * 0) && n / 2 ^ drop % 2 == 1) = false := by
        simp
      rw [this] at h
      simp at h
  · rw [Nat.min_eq_right (by omega)]
    have hn : n < 2 ^ (n.log2 + 1) := Nat.lt_log2_self
    have hp : 2 ^ (n.log2 + 2) = 2 * 2 ^ (n.log2 + 1) := by rw [Nat.pow_succ]; omega
    have hq : 2 ^ (n.log2 + 2) ≤ 2 ^ drop := Nat.pow_le_pow_right (by omega) (by omega)
    have z1 : n / 2 ^ (n.log2 + 2) = 0 := Nat.div_eq_of_lt (by omega)
    have z2 : n / 2 ^ drop = 0 := Nat.div_eq_of_lt (by omega)
    have z3 : n % 2 ^ (n.log2 + 2) = n := Nat.mod_eq_of_lt (by omega)
    refine ⟨0, ?_, by omega, by omega⟩
    rw [z1, z2, z3]
    have : (decide (2 ^ (n.log2 + 2) < 2 * n) || (2 ^ (n.log2 + 2) == 2 * n) && 0 % 2 == 1) = false := by
      simp; omega
    rw [this]; rfl

theorem word_eq (neg : Bool) (r : Nat) : double.word neg r = (if neg then 9223372036854775808 else 0) + r := by
  unfold Format.word Format.signWeight double
  cases neg <;> simp

/-- TO ROUND IS TO FIND A NEIGHBOUR. -/
theorem nearest_faith (neg : Bool) (mag : Nat) (place : Int) :
    ∃ r, double.nearest neg mag place = double.word neg r ∧ Faith (Rt (mag * 2 ^ (place + 1074).toNat) (2 ^ (-(place + 1074)).toNat)) r := by
  unfold Format.nearest
  by_cases hz : mag = 0
  · subst hz
    refine ⟨0, by simp, Nat.zero_le _, fun k hk => ⟨fun h => ?_, fun _ => Nat.zero_le _⟩⟩
    unfold Rt at h
    rcases Nat.eq_zero_or_pos k with h' | h'
    · omega
    · have h1 := M_pos h'
      have h2 : 0 < M k * 2 ^ (-(place + 1074)).toNat := Nat.mul_pos h1 (Nat.two_pow_pos _)
      simp only [Nat.zero_mul] at h
      omega
  rw [if_neg hz]
  dsimp only
  have hl : double.leastPlace = -1074 := by decide
  have hf : (double.fractionBits : Int) = 52 := rfl
  have hb : double.binade = 4503599627370496 := by decide
  have hi : double.infRung = 9218868437227405312 := by decide
  rw [hl, hf, hb, hi]
  generalize hlast : max (place + (mag.log2 : Int) - 52) (-1074) = last
  have hlo : -1074 ≤ last := by omega
  obtain ⟨c, hc, hc1, hc2⟩ := cut_even neg (mag <<< (place - last).toNat) (last - place).toNat
  rw [hc]
  rw [Nat.shiftLeft_eq] at *
  have h1 : mag < 2 ^ (mag.log2 + 1) := Nat.lt_log2_self
  have h2 : 2 ^ mag.log2 ≤ mag := Nat.log2_self_le hz
  -- e: the exponent that is kept
  generalize he : (last - -1074).toNat = e
  generalize hq : mag * 2 ^ (place - last).toNat / 2 ^ (last - place).toNat = q at *
  generalize hrest : mag * 2 ^ (place - last).toNat % 2 ^ (last - place).toNat = rest at *
  have hsplit : mag * 2 ^ (place - last).toNat = 2 ^ (last - place).toNat * q + rest := by
    rw [← hq, ← hrest]; exact (Nat.div_add_mod _ _).symm
  have hrl : rest < 2 ^ (last - place).toNat := by rw [← hrest]; exact Nat.mod_lt _ (Nat.two_pow_pos _)
  -- q below 2^53
  have hq53 : q < 9007199254740992 := by
    rw [← hq]
    apply Nat.div_lt_of_lt_mul
    have : place + mag.log2 - 52 ≤ last := by omega
    have e1 : (mag.log2 + 1) + (place - last).toNat ≤ (last - place).toNat + 53 := by omega
    calc mag * 2 ^ (place - last).toNat < 2 ^ (mag.log2 + 1) * 2 ^ (place - last).toNat := Nat.mul_lt_mul_of_pos_right h1 (Nat.two_pow_pos _)
      _ = 2 ^ ((mag.log2 + 1) + (place - last).toNat) := (Nat.pow_add ..).symm
      _ ≤ 2 ^ ((last - place).toNat + 53) := Nat.pow_le_pow_right (by omega) e1
      _ = 2 ^ (last - place).toNat * 9007199254740992 := by rw [Nat.pow_add]
  have hq52 : 4503599627370496 ≤ q ∨ e = 0 := by
    by_cases e0 : e = 0
    · exact .inr e0
    · left
      have hlt : last = place + mag.log2 - 52 := by omega
      rw [← hq]
      apply (Nat.le_div_iff_mul_le (Nat.two_pow_pos _)).2
      have e1 : (last - place).toNat + 52 = mag.log2 + (place - last).toNat := by omega
      calc 4503599627370496 * 2 ^ (last - place).toNat = 2 ^ ((last - place).toNat + 52) := by rw [Nat.pow_add]; omega
        _ = 2 ^ mag.log2 * 2 ^ (place - last).toNat := by rw [e1, Nat.pow_add]
        _ ≤ mag * 2 ^ (place - last).toNat := Nat.mul_le_mul_right _ h2
  have hM0 : M (e * 4503599627370496 + q) = q * 2 ^ e := M_pack e q (by omega) hq52
  have hM1 : M (e * 4503599627370496 + (q + 1)) = (q + 1) * 2 ^ e := M_pack e (q + 1) (by omega) (by omega)
  -- what is exact, at one scale: mag * 2^up * 2^A = (2^dr * q + rest) * 2^e * 2^B
  have hp1 := Nat.two_pow_pos (place + 1074).toNat
  have key : mag * 2 ^ (place + 1074).toNat * 2 ^ (last - place).toNat = (2 ^ (last - place).toNat * q + rest) * 2 ^ e * 2 ^ (-(place + 1074)).toNat := by
    rw [← hsplit]
    rw [Nat.mul_assoc, ← Nat.pow_add, Nat.mul_assoc, ← Nat.pow_add, Nat.mul_assoc, ← Nat.pow_add]
    congr 2
    omega
  generalize hD : 2 ^ (-(place + 1074)).toNat = D at *
  generalize hN : mag * 2 ^ (place + 1074).toNat = N at *
  generalize hdr : 2 ^ (last - place).toNat = dr at *
  have hDp : 0 < D := by rw [← hD]; exact Nat.two_pow_pos _
  have hdp : 0 < dr := by rw [← hdr]; exact Nat.two_pow_pos _
  have hEp : 0 < 2 ^ e := Nat.two_pow_pos _
  have lo : M (e * 4503599627370496 + q) * D ≤ N := by
    apply Nat.le_of_mul_le_mul_right (c := dr) _ hdp
    rw [hM0, key]
    calc q * 2 ^ e * D * dr = (dr * q) * 2 ^ e * D := by rw [Nat.mul_comm dr q]; simp only [Nat.mul_assoc, Nat.mul_left_comm, Nat.mul_comm]
      _ ≤ (dr * q + rest) * 2 ^ e * D := Nat.mul_le_mul_right _ (Nat.mul_le_mul_right _ (by omega))
  have hi' : N < M (e * 4503599627370496 + (q + 1)) * D := by
    apply Nat.lt_of_mul_lt_mul_right (a := dr)
    rw [hM1, key]
    calc (dr * q + rest) * 2 ^ e * D < (dr * q + dr) * 2 ^ e * D := Nat.mul_lt_mul_of_pos_right (Nat.mul_lt_mul_of_pos_right (by omega) hEp) hDp
      _ = (q + 1) * 2 ^ e * D * dr := by
        rw [show dr * q + dr = (q + 1) * dr by rw [Nat.add_mul, Nat.mul_comm]; omega]
        simp only [Nat.mul_assoc, Nat.mul_left_comm, Nat.mul_comm]
  have lo' : rest ≠ 0 → M (e * 4503599627370496 + q) * D < N := by
    intro hr
    apply Nat.lt_of_mul_lt_mul_right (a := dr)
    rw [hM0, key]
    calc q * 2 ^ e * D * dr = (dr * q) * 2 ^ e * D := by rw [Nat.mul_comm dr q]; simp only [Nat.mul_assoc, Nat.mul_left_comm, Nat.mul_comm]
      _ < (dr * q + rest) * 2 ^ e * D := Nat.mul_lt_mul_of_pos_right (Nat.mul_lt_mul_of_pos_right (by omega) hEp) hDp
  refine ⟨_, rfl, Nat.min_le_right _ _, fun k hk => ⟨fun h => ?_, fun h => ?_⟩⟩
  · unfold Rt at h
    have h' : M k * D ≤ N := by omega
    have : M k < M (e * 4503599627370496 + (q + 1)) := Nat.lt_of_mul_lt_mul_right (Nat.lt_of_le_of_lt h' hi')
    have := lt_of_M this
    have hk' : k ≤ 9218868437227405312 := hk
    exact Nat.le_min.2 ⟨by omega, hk'⟩
  · unfold Rt at h
    have h' : N ≤ M k * D := by omega
    have hge : M (e * 4503599627370496 + q) ≤ M k := Nat.le_of_mul_le_mul_right (Nat.le_trans lo h') hDp
    have hge' := le_of_M hge
    have : e * 4503599627370496 + (q + c) ≤ k := by
      by_cases c1 : c = 1
      · have hlt : M (e * 4503599627370496 + q) < M k := Nat.lt_of_mul_lt_mul_right (Nat.lt_of_lt_of_le (lo' (hc2 c1)) h')
        have := lt_of_M hlt
        omega
      · omega
    exact Nat.le_trans (Nat.min_le_left _ _) this

end Go.Proofs.Ytiohmafmkdbljaa.Fl
