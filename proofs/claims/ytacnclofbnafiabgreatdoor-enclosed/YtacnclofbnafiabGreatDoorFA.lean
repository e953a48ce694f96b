import Ieee.Arith
import Derived.Laws.FloatBits
import Derived.Laws.BitsAllLaws
namespace Go.Proofs.YtacnclofbnafiabGreatDoor.Fl
open Ieee

/-- What a rung is worth, in units of 2^-1074. -/
def mg (r : Nat) : Nat := if r < 4503599627370496 then r else 4503599627370496 + r % 4503599627370496
def M (r : Nat) : Nat := mg r * 2 ^ (r / 4503599627370496 - 1)
/-- The rung of infinity. -/
def INF : Nat := 9218868437227405312
theorem INF_eq : INF = 9218868437227405312 := rfl

theorem M_pack (e m : Nat) (h : m ≤ 9007199254740992) (h' : 4503599627370496 ≤ m ∨ e = 0) : M (e * 4503599627370496 + m) = m * 2 ^ e := by
  unfold M mg
  by_cases hm : m < 4503599627370496
  · have he : e = 0 := by omega
    subst he
    rw [if_pos (by omega)]
    have : (0 * 4503599627370496 + m) / 4503599627370496 - 1 = 0 := by omega
    rw [this]; simp
  · by_cases h2 : m = 9007199254740992
    · subst h2
      rw [if_neg (by omega)]
      have a : (e * 4503599627370496 + 9007199254740992) % 4503599627370496 = 0 := by omega
      have b : (e * 4503599627370496 + 9007199254740992) / 4503599627370496 - 1 = e + 1 := by omega
      rw [a, b, Nat.pow_succ]; omega
    · rw [if_neg (by omega)]
      have a : 4503599627370496 + (e * 4503599627370496 + m) % 4503599627370496 = m := by omega
      have b : (e * 4503599627370496 + m) / 4503599627370496 - 1 = e := by omega
      rw [a, b]

theorem mg_lt (r : Nat) : mg r < 9007199254740992 := by unfold mg; split <;> omega
theorem mg_ge (r : Nat) (h : 4503599627370496 ≤ r) : 4503599627370496 ≤ mg r := by unfold mg; split <;> omega
theorem rung_eq (r : Nat) : r = (r / 4503599627370496 - 1) * 4503599627370496 + mg r := by unfold mg; split <;> omega

theorem M_succ (r : Nat) : M (r + 1) = M r + 2 ^ (r / 4503599627370496 - 1) := by
  have h1 := rung_eq r
  have h2 := mg_lt r
  have h3 : 4503599627370496 ≤ mg r ∨ r / 4503599627370496 - 1 = 0 := by
    by_cases h : 4503599627370496 ≤ r
    · exact .inl (mg_ge r h)
    · right; omega
  have h4 : r + 1 = (r / 4503599627370496 - 1) * 4503599627370496 + (mg r + 1) := by omega
  rw [h4, M_pack _ _ (by omega) (by omega)]
  unfold M
  rw [Nat.succ_mul]

theorem M_lt_succ (r : Nat) : M r < M (r + 1) := by
  rw [M_succ]; have := Nat.two_pow_pos (r / 4503599627370496 - 1); omega

theorem M_lt {a b : Nat} (h : a < b) : M a < M b := by
  induction b with
  | zero => omega
  | succ n ih =>
    by_cases e : a = n
    · subst e; exact M_lt_succ a
    · exact Nat.lt_trans (ih (by omega)) (M_lt_succ n)
theorem M_le {a b : Nat} (h : a ≤ b) : M a ≤ M b := by
  rcases Nat.lt_or_eq_of_le h with h | h
  · exact Nat.le_of_lt (M_lt h)
  · subst h; exact Nat.le_refl _
theorem lt_of_M {a b : Nat} (h : M a < M b) : a < b := by
  rcases Nat.lt_or_ge a b with h' | h'
  · exact h'
  · have := M_le h'; omega
theorem le_of_M {a b : Nat} (h : M a ≤ M b) : a ≤ b := by
  rcases Nat.lt_or_ge b a with h' | h'
  · have := M_lt h'; omega
  · exact h'
theorem M_zero : M 0 = 0 := by simp [M, mg]
theorem M_pos {r : Nat} (h : 0 < r) : 0 < M r := by have := M_lt h; omega
theorem M_one : M 1 = 1 := by simp [M, mg]

/-- 'C v': the sign of what is exact less v. 'r' is one of its two neighbours (or it). -/
def Faith (C : Nat → Int) (r : Nat) : Prop := r ≤ INF ∧ ∀ k, k ≤ INF → (0 ≤ C (M k) → k ≤ r) ∧ (C (M k) ≤ 0 → r ≤ k)

theorem Faith.congr {C D : Nat → Int} {r : Nat} (h : Faith C r) (e : ∀ k, k ≤ INF → (0 ≤ D (M k) → 0 ≤ C (M k)) ∧ (D (M k) ≤ 0 → C (M k) ≤ 0)) : Faith D r :=
  ⟨h.1, fun k hk => ⟨fun a => (h.2 k hk).1 ((e k hk).1 a), fun a => (h.2 k hk).2 ((e k hk).2 a)⟩⟩

/-- A ratio. -/
def Rt (N D : Nat) : Nat → Int := fun v => (N : Int) - (v * D : Nat)

theorem cut_even (neg : Bool) (n drop : Nat) : ∃ c : Nat, Toward.even.cut neg n drop = n / 2 ^ drop + c ∧ c ≤ 1 ∧ (c = 1 → n % 2 ^ drop ≠ 0) := by
  unfold Toward.cut
  dsimp only
  rw [Nat.one_shiftLeft]
  by_cases hd : drop ≤ n.log2 + 2
  · rw [Nat.min_eq_left hd]
    refine ⟨_, rfl, ?_, ?_⟩
    · exact Bool.toNat_le _
    · intro h hz
      rw [hz] at h
      have hp := Nat.two_pow_pos drop
      have : (decide (2 ^ drop < 2 * 0) || (2 ^ drop == 2 * 0) && n / 2 ^ drop % 2 == 1) = false := by
        simp
      rw [this] at h
      simp at h
  · rw [Nat.min_eq_right (by omega)]
    have hn : n < 2 ^ (n.log2 + 1) := Nat.lt_log2_self
    have hp : 2 ^ (n.log2 + 2) = 2 * 2 ^ (n.log2 + 1) := by rw [Nat.pow_succ]; omega
    have hq : 2 ^ (n.log2 + 2) ≤ 2 ^ drop := Nat.pow_le_pow_right (by omega) (by omega)
    have z1 : n / 2 ^ (n.log2 + 2) = 0 := Nat.div_eq_of_lt (by omega)
    have z2 : n / 2 ^ drop = 0 := Nat.div_eq_of_lt (by omega)
    have z3 : n % 2 ^ (n.log2 + 2) = n := Nat.mod_eq_of_lt (by omega)
    refine ⟨0, ?_, by omega, by omega⟩
    rw [z1, z2, z3]
    have : (decide (2 ^ (n.log2 + 2) < 2 * n) || (2 ^ (n.log2 + 2) == 2 * n) && 0 % 2 == 1) = false := by
      simp; omega
    rw [this]; rfl

theorem word_eq (neg : Bool) (r : Nat) : double.word neg r = (if neg then 9223372036854775808 else 0) + r := by
  unfold Format.word Format.signWeight double
  cases neg <;> simp

/-- TO ROUND IS TO FIND A NEIGHBOUR. -/
theorem nearest_faith (neg : Bool) (mag : Nat) (place : Int) :
    ∃ r, double.nearest neg mag place = double.word neg r ∧ Faith (Rt (mag * 2 ^ (place + 1074).toNat) (2 ^ (-(place + 1074)).toNat)) r := by
  unfold Format.nearest
  by_cases hz : mag = 0
  · subst hz
    refine ⟨0, by simp, Nat.zero_le _, fun k hk => ⟨fun h => ?_, fun _ => Nat.zero_le _⟩⟩
    unfold Rt at h
    rcases Nat.eq_zero_or_pos k with h' | h'
    · omega
    · have h1 := M_pos h'
      have h2 : 0 < M k * 2 ^ (-(place + 1074)).toNat := Nat.mul_pos h1 (Nat.two_pow_pos _)
      simp only [Nat.zero_mul] at h
      omega
  rw [if_neg hz]
  dsimp only
  have hl : double.leastPlace = -1074 := by decide
  have hf : (double.fractionBits : Int) = 52 := rfl
  have hb : double.binade = 4503599627370496 := by decide
  have hi : double.infRung = 9218868437227405312 := by decide
  rw [hl, hf, hb, hi]
  generalize hlast : max (place + (mag.log2 : Int) - 52) (-1074) = last
  have hlo : -1074 ≤ last := by omega
  obtain ⟨c, hc, hc1, hc2⟩ := cut_even neg (mag <<< (place - last).toNat) (last - place).toNat
  rw [hc]
  rw [Nat.shiftLeft_eq] at *
  have h1 : mag < 2 ^ (mag.log2 + 1) := Nat.lt_log2_self
  have h2 : 2 ^ mag.log2 ≤ mag := Nat.log2_self_le hz
  -- e: the exponent that is kept
  generalize he : (last - -1074).toNat = e
  generalize hq : mag * 2 ^ (place - last).toNat / 2 ^ (last - place).toNat = q at *
  generalize hrest : mag * 2 ^ (place - last).toNat % 2 ^ (last - place).toNat = rest at *
  have hsplit : mag * 2 ^ (place - last).toNat = 2 ^ (last - place).toNat * q + rest := by
    rw [← hq, ← hrest]; exact (Nat.div_add_mod _ _).symm
  have hrl : rest < 2 ^ (last - place).toNat := by rw [← hrest]; exact Nat.mod_lt _ (Nat.two_pow_pos _)
  -- q below 2^53
  have hq53 : q < 9007199254740992 := by
    rw [← hq]
    apply Nat.div_lt_of_lt_mul
    have : place + mag.log2 - 52 ≤ last := by omega
    have e1 : (mag.log2 + 1) + (place - last).toNat ≤ (last - place).toNat + 53 := by omega
    calc mag * 2 ^ (place - last).toNat < 2 ^ (mag.log2 + 1) * 2 ^ (place - last).toNat := Nat.mul_lt_mul_of_pos_right h1 (Nat.two_pow_pos _)
      _ = 2 ^ ((mag.log2 + 1) + (place - last).toNat) := (Nat.pow_add ..).symm
      _ ≤ 2 ^ ((last - place).toNat + 53) := Nat.pow_le_pow_right (by omega) e1
      _ = 2 ^ (last - place).toNat * 9007199254740992 := by rw [Nat.pow_add]
  have hq52 : 4503599627370496 ≤ q ∨ e = 0 := by
    by_cases e0 : e = 0
    · exact .inr e0
    · left
      have hlt : last = place + mag.log2 - 52 := by omega
      rw [← hq]
      apply (Nat.le_div_iff_mul_le (Nat.two_pow_pos _)).2
      have e1 : (last - place).toNat + 52 = mag.log2 + (place - last).toNat := by omega
      calc 4503599627370496 * 2 ^ (last - place).toNat = 2 ^ ((last - place).toNat + 52) := by rw [Nat.pow_add]; omega
        _ = 2 ^ mag.log2 * 2 ^ (place - last).toNat := by rw [e1, Nat.pow_add]
        _ ≤ mag * 2 ^ (place - last).toNat := Nat.mul_le_mul_right _ h2
  have hM0 : M (e * 4503599627370496 + q) = q * 2 ^ e := M_pack e q (by omega) hq52
  have hM1 : M (e * 4503599627370496 + (q + 1)) = (q + 1) * 2 ^ e := M_pack e (q + 1) (by omega) (by omega)
  -- what is exact, at one scale: mag * 2^up * 2^A = (2^dr * q + rest) * 2^e * 2^B
  have hp1 := Nat.two_pow_pos (place + 1074).toNat
  have key : mag * 2 ^ (place + 1074).toNat * 2 ^ (last - place).toNat = (2 ^ (last - place).toNat * q + rest) * 2 ^ e * 2 ^ (-(place + 1074)).toNat := by
    rw [← hsplit]
    rw [Nat.mul_assoc, ← Nat.pow_add, Nat.mul_assoc, ← Nat.pow_add, Nat.mul_assoc, ← Nat.pow_add]
    congr 2
    omega
  generalize hD : 2 ^ (-(place + 1074)).toNat = D at *
  generalize hN : mag * 2 ^ (place + 1074).toNat = N at *
  generalize hdr : 2 ^ (last - place).toNat = dr at *
  have hDp : 0 < D := by rw [← hD]; exact Nat.two_pow_pos _
  have hdp : 0 < dr := by rw [← hdr]; exact Nat.two_pow_pos _
  have hEp : 0 < 2 ^ e := Nat.two_pow_pos _
  have lo : M (e * 4503599627370496 + q) * D ≤ N := by
    apply Nat.le_of_mul_le_mul_right (c := dr) _ hdp
    rw [hM0, key]
    calc q * 2 ^ e * D * dr = (dr * q) * 2 ^ e * D := by rw [Nat.mul_comm dr q]; simp only [Nat.mul_assoc, Nat.mul_left_comm, Nat.mul_comm]
      _ ≤ (dr * q + rest) * 2 ^ e * D := Nat.mul_le_mul_right _ (Nat.mul_le_mul_right _ (by omega))
  have hi' : N < M (e * 4503599627370496 + (q + 1)) * D := by
    apply Nat.lt_of_mul_lt_mul_right (a := dr)
    rw [hM1, key]
    calc (dr * q + rest) * 2 ^ e * D < (dr * q + dr) * 2 ^ e * D := Nat.mul_lt_mul_of_pos_right (Nat.mul_lt_mul_of_pos_right (by omega) hEp) hDp
      _ = (q + 1) * 2 ^ e * D * dr := by
        rw [show dr * q + dr = (q + 1) * dr by rw [Nat.add_mul, Nat.mul_comm]; omega]
        simp only [Nat.mul_assoc, Nat.mul_left_comm, Nat.mul_comm]
  have lo' : rest ≠ 0 → M (e * 4503599627370496 + q) * D < N := by
    intro hr
    apply Nat.lt_of_mul_lt_mul_right (a := dr)
    rw [hM0, key]
    calc q * 2 ^ e * D * dr = (dr * q) * 2 ^ e * D := by rw [Nat.mul_comm dr q]; simp only [Nat.mul_assoc, Nat.mul_left_comm, Nat.mul_comm]
      _ < (dr * q + rest) * 2 ^ e * D := Nat.mul_lt_mul_of_pos_right (Nat.mul_lt_mul_of_pos_right (by omega) hEp) hDp
  refine ⟨_, rfl, Nat.min_le_right _ _, fun k hk => ⟨fun h => ?_, fun h => ?_⟩⟩
  · unfold Rt at h
    have h' : M k * D ≤ N := by omega
    have : M k < M (e * 4503599627370496 + (q + 1)) := Nat.lt_of_mul_lt_mul_right (Nat.lt_of_le_of_lt h' hi')
    have := lt_of_M this
    have hk' : k ≤ 9218868437227405312 := hk
    exact Nat.le_min.2 ⟨by omega, hk'⟩
  · unfold Rt at h
    have h' : N ≤ M k * D := by omega
    have hge : M (e * 4503599627370496 + q) ≤ M k := Nat.le_of_mul_le_mul_right (Nat.le_trans lo h') hDp
    have hge' := le_of_M hge
    have : e * 4503599627370496 + (q + c) ≤ k := by
      by_cases c1 : c = 1
      · have hlt : M (e * 4503599627370496 + q) < M k := Nat.lt_of_mul_lt_mul_right (Nat.lt_of_lt_of_le (lo' (hc2 c1)) h')
        have := lt_of_M hlt
        omega
      · omega
    exact Nat.le_trans (Nat.min_le_left _ _) this

end Go.Proofs.YtacnclofbnafiabGreatDoor.Fl

namespace Go.Proofs.YtacnclofbnafiabGreatDoor.Fl
open Ieee

def EE : Nat := 1074
theorem EE_eq : EE = 1074 := rfl
/-- One, in units of 2^-1074. -/
def U : Nat := 2 ^ EE
theorem U_pos : 0 < U := Nat.two_pow_pos _
/-- The word of a sign and a rung, plainly. -/
def W (s : Bool) (r : Nat) : Nat := (if s then 9223372036854775808 else 0) + r
theorem word_W (s : Bool) (r : Nat) : double.word s r = W s r := word_eq s r
/-- What it is worth, in units of 2^-1074. -/
def V (s : Bool) (r : Nat) : Int := if s then -(M r : Int) else M r
def pl (r : Nat) : Int := -1074 + (r / 4503599627370496 - 1 : Nat)
theorem pl_ge (r : Nat) : -1074 ≤ pl r := by unfold pl; omega
theorem M_pl (r : Nat) : M r = mg r * 2 ^ (pl r + 1074).toNat := by
  unfold M pl; congr 2; omega

theorem W_cases (x : Nat) (h : x < 18446744073709551616) : ∃ s r, x = W s r ∧ r < 9223372036854775808 := by
  by_cases hx : x < 9223372036854775808
  · exact ⟨false, x, by simp [W], hx⟩
  · exact ⟨true, x - 9223372036854775808, by simp [W]; omega, by omega⟩

theorem neg_W (s : Bool) (r : Nat) (h : r < 9223372036854775808) : (W s r / double.signWeight % 2 == 1) = s := by
  have : double.signWeight = 9223372036854775808 := by decide
  rw [this]; unfold W
  cases s
  · have : r / 9223372036854775808 % 2 = 0 := by omega
    simp [this]
  · simp only [if_true]
    have : (9223372036854775808 + r) / 9223372036854775808 % 2 = 1 := by omega
    rw [this]; rfl
theorem rung_W (s : Bool) (r : Nat) (h : r < 9223372036854775808) : W s r % double.signWeight = r := by
  have : double.signWeight = 9223372036854775808 := by decide
  rw [this]; unfold W
  cases s <;> simp <;> omega

theorem read_fin (s : Bool) (r : Nat) (h : r < INF) : double.read (W s r) = .number s (mg r) (pl r) := by
  rw [INF_eq] at h
  unfold Format.read
  rw [neg_W s r (by omega), rung_W s r (by omega)]
  have hl : double.leastPlace = -1074 := by decide
  have hb : double.binade = 4503599627370496 := by decide
  have hi : double.infRung = 9218868437227405312 := by decide
  rw [hl, hb, hi]
  dsimp only
  by_cases h1 : r < 4503599627370496
  · rw [if_pos h1]
    unfold mg pl
    rw [if_pos h1]
    have : r / 4503599627370496 - 1 = 0 := by omega
    rw [this]; rfl
  · rw [if_neg h1, if_pos h]
    unfold mg pl
    rw [if_neg h1]
theorem read_inf (s : Bool) : double.read (W s INF) = .infinity s := by
  unfold Format.read
  rw [neg_W s INF (by decide), rung_W s INF (by decide)]
  have hb : double.binade = 4503599627370496 := by decide
  have hi : double.infRung = 9218868437227405312 := by decide
  rw [hb, hi, INF_eq]
  rfl
theorem read_nan (s : Bool) (r : Nat) (h : INF < r) (h' : r < 9223372036854775808) : double.read (W s r) = .nan s (r - INF) := by
  rw [INF_eq] at *
  unfold Format.read
  rw [neg_W s r (by omega), rung_W s r (by omega)]
  have hl : double.leastPlace = -1074 := by decide
  have hb : double.binade = 4503599627370496 := by decide
  have hi : double.infRung = 9218868437227405312 := by decide
  rw [hl, hb, hi]
  dsimp only
  rw [if_neg (by omega), if_neg (by omega), if_neg (by omega)]

theorem signed_eq (s : Bool) (m u : Nat) : signed s m u = if s then -((m * 2 ^ u : Nat) : Int) else ((m * 2 ^ u : Nat) : Int) := by
  unfold signed; rw [Nat.shiftLeft_eq]
theorem signed_shift (s : Bool) (m u v : Nat) : signed s m u * ((2 ^ v : Nat) : Int) = signed s m (u + v) := by
  rw [signed_eq, signed_eq, Nat.pow_add, ← Nat.mul_assoc]
  cases s
  · simp only [Bool.false_eq_true, if_false]; rw [Int.natCast_mul (m * 2 ^ u)]
  · simp only [if_true]; rw [Int.natCast_mul (m * 2 ^ u), Int.neg_mul]
theorem signed_V (s : Bool) (r : Nat) : signed s (mg r) (pl r + 1074).toNat = V s r := by
  rw [signed_eq, ← M_pl]; rfl

/-- The sign of what is exact. -/
def SgnOk (sg : Bool) (E : Int) : Prop := (E < 0 → sg = true) ∧ (0 < E → sg = false)

theorem Rt_scale {N D N' D' r : Nat} (hD' : 0 < D') (e : N * D' = N' * D) (h : Faith (Rt N D) r) : Faith (Rt N' D') r := by
  refine h.congr fun k _ => ?_
  unfold Rt
  constructor
  · intro h
    have h1 : M k * D' ≤ N' := by omega
    have h2 : M k * D ≤ N := by
      apply Nat.le_of_mul_le_mul_right (c := D') _ hD'
      rw [e, Nat.mul_right_comm]
      exact Nat.mul_le_mul_right _ h1
    omega
  · intro h
    have h1 : N' ≤ M k * D' := by omega
    have h2 : N ≤ M k * D := by
      apply Nat.le_of_mul_le_mul_right (c := D') _ hD'
      rw [e, Nat.mul_right_comm]
      exact Nat.mul_le_mul_right _ h1
    omega

/-- A sum of two numbers at places from p on, written. -/
theorem sum_num (p : Int) (s t : Bool) (m n : Nat) (i j : Int) (hi : p ≤ i) (hj : p ≤ j) (hp : p ≤ -1074) :
    ∃ sg z, ((Datum.number s m i).sum (.number t n j)).map double.write = some (W sg z)
      ∧ Faith (Rt (signed s m (i - p).toNat + signed t n (j - p).toNat).natAbs (2 ^ (-1074 - p).toNat)) z
      ∧ SgnOk sg (signed s m (i - p).toNat + signed t n (j - p).toNat)
      ∧ (signed s m (i - p).toNat + signed t n (j - p).toNat = 0 → sg = (s && t)) := by
  unfold Datum.sum
  dsimp only
  simp only [Option.map_some, Format.write]
  have e1 : signed s m (i - p).toNat = signed s m (i - min i j).toNat * ((2 ^ (min i j - p).toNat : Nat) : Int) := by
    rw [signed_shift]; congr 1; omega
  have e2 : signed t n (j - p).toNat = signed t n (j - min i j).toNat * ((2 ^ (min i j - p).toNat : Nat) : Int) := by
    rw [signed_shift]; congr 1; omega
  rw [e1, e2, ← Int.add_mul]
  generalize hT : signed s m (i - min i j).toNat + signed t n (j - min i j).toNat = T
  obtain ⟨z, hz, hf⟩ := nearest_faith (if T = 0 then s && t else decide (T < 0)) T.natAbs (min i j)
  have hpos : 0 < 2 ^ (min i j - p).toNat := Nat.two_pow_pos _
  refine ⟨_, z, by rw [hz, word_W], ?_, ?_, ?_⟩
  · refine Rt_scale (Nat.two_pow_pos _) ?_ hf
    rw [Int.natAbs_mul, Int.natAbs_natCast, Nat.mul_assoc, ← Nat.pow_add, Nat.mul_assoc, ← Nat.pow_add]
    congr 2
    omega
  · generalize (2 ^ (min i j - p).toNat) = c at hpos
    have hc : (0 : Int) < c := by omega
    constructor
    · intro h
      have : T < 0 := by
        rcases Int.lt_or_le T 0 with h' | h'
        · exact h'
        · have := Int.mul_nonneg h' (Int.le_of_lt hc); omega
      rw [if_neg (by omega)]; simp [this]
    · intro h
      have : 0 < T := by
        rcases Int.lt_or_le 0 T with h' | h'
        · exact h'
        · have := Int.mul_nonneg (show 0 ≤ -T by omega) (Int.le_of_lt hc); rw [Int.neg_mul] at this; omega
      rw [if_neg (by omega)]; simp; omega
  · intro h
    have : T = 0 := by
      rcases Int.mul_eq_zero.1 h with h | h
      · exact h
      · omega
    rw [if_pos this]

theorem add_fin (s t : Bool) (r q : Nat) (hr : r < INF) (hq : q < INF) :
    ∃ sg z, double.add (W s r) (W t q) = some (W sg z) ∧ Faith (Rt (V s r + V t q).natAbs 1) z ∧ SgnOk sg (V s r + V t q) ∧ (V s r + V t q = 0 → sg = (s && t)) := by
  unfold Format.add
  rw [read_fin s r hr, read_fin t q hq]
  obtain ⟨sg, z, h1, h2, h3, h4⟩ := sum_num (-1074) s t (mg r) (mg q) (pl r) (pl q) (pl_ge r) (pl_ge q) (by omega)
  have e : ∀ a : Int, a - -1074 = a + 1074 := fun a => by omega
  rw [e, e, signed_V, signed_V] at h2 h3 h4
  exact ⟨sg, z, h1, h2, h3, h4⟩

theorem V_not (s : Bool) (r : Nat) : V (!s) r = - V s r := by cases s <;> simp [V]

theorem sub_fin (s t : Bool) (r q : Nat) (hr : r < INF) (hq : q < INF) :
    ∃ sg z, double.sub (W s r) (W t q) = some (W sg z) ∧ Faith (Rt (V s r - V t q).natAbs 1) z ∧ SgnOk sg (V s r - V t q) ∧ (V s r - V t q = 0 → sg = (s && !t)) := by
  unfold Format.sub
  rw [read_fin s r hr, read_fin t q hq]
  obtain ⟨sg, z, h1, h2, h3, h4⟩ := sum_num (-1074) s (!t) (mg r) (mg q) (pl r) (pl q) (pl_ge r) (pl_ge q) (by omega)
  have e : ∀ a : Int, a - -1074 = a + 1074 := fun a => by omega
  rw [e, e, signed_V, signed_V, V_not, ← Int.sub_eq_add_neg] at h2 h3 h4
  exact ⟨sg, z, h1, h2, h3, h4⟩

theorem mul_fin (s t : Bool) (r q : Nat) (hr : r < INF) (hq : q < INF) :
    ∃ z, double.mul (W s r) (W t q) = some (W (s ^^ t) z) ∧ Faith (Rt (M r * M q) U) z := by
  unfold Format.mul
  rw [read_fin s r hr, read_fin t q hq]
  simp only [Datum.product, Option.map_some, Format.write]
  obtain ⟨z, hz, hf⟩ := nearest_faith (s ^^ t) (mg r * mg q) (pl r + pl q)
  refine ⟨z, by rw [hz, word_W], Rt_scale U_pos ?_ hf⟩
  rw [M_pl r, M_pl q]; unfold U
  have h1 := pl_ge r
  have h2 := pl_ge q
  have e : ∀ a b c d : Nat, a * b * (c * d) = a * c * (b * d) := Nat.mul_mul_mul_comm
  rw [e (mg r) _ (mg q), ← Nat.pow_add]
  have hE := EE_eq
  simp only [Nat.mul_assoc, ← Nat.pow_add]
  congr 3
  omega

theorem fma_fin (s t u : Bool) (r q c : Nat) (hr : r < INF) (hq : q < INF) (hc : c < INF) :
    ∃ sg z, double.fma (W s r) (W t q) (W u c) = some (W sg z) ∧ Faith (Rt (V s r * V t q + V u c * (U : Int)).natAbs U) z
      ∧ SgnOk sg (V s r * V t q + V u c * (U : Int)) := by
  unfold Format.fma
  rw [read_fin s r hr, read_fin t q hq, read_fin u c hc]
  have h1 := pl_ge r
  have h2 := pl_ge q
  have h3 := pl_ge c
  simp only [Datum.product, Option.bind_some]
  obtain ⟨sg, z, g1, g2, g3, _⟩ := sum_num (-2148) (s ^^ t) u (mg r * mg q) (mg c) (pl r + pl q) (pl c) (by omega) (by omega) (by omega)
  have e1 : signed (s ^^ t) (mg r * mg q) (pl r + pl q - -2148).toNat = V s r * V t q := by
    have e0 : (mg r * mg q) * 2 ^ (pl r + pl q - -2148).toNat = M r * M q := by
      rw [M_pl r, M_pl q]
      have e : ∀ a b c d : Nat, a * b * (c * d) = a * c * (b * d) := Nat.mul_mul_mul_comm
      rw [e (mg r) _ (mg q), ← Nat.pow_add]
      congr 2; omega
    rw [signed_eq, e0]; unfold V
    cases s <;> cases t <;> simp [Int.neg_mul, Int.mul_neg]
  have e2 : signed u (mg c) (pl c - -2148).toNat = V u c * (U : Int) := by
    rw [← signed_V]; unfold U; rw [signed_shift]; have hE := EE_eq; congr 1; omega
  rw [e1, e2] at g2 g3
  have hU : 2 ^ (-1074 - -2148 : Int).toNat = U := by unfold U; congr 1
  rw [hU] at g2
  exact ⟨sg, z, g1, g2, g3⟩

theorem order_fin (s t : Bool) (r q : Nat) (hr : r < INF) (hq : q < INF) : double.order (W s r) (W t q) = some (compare (V s r) (V t q)) := by
  unfold Format.order
  rw [read_fin s r hr, read_fin t q hq]
  unfold Datum.order
  dsimp only
  have h1 := pl_ge r
  have h2 := pl_ge q
  have e1 : V s r = signed s (mg r) (pl r - min (pl r) (pl q)).toNat * ((2 ^ (min (pl r) (pl q) + 1074).toNat : Nat) : Int) := by
    rw [signed_shift, ← signed_V]; congr 1; omega
  have e2 : V t q = signed t (mg q) (pl q - min (pl r) (pl q)).toNat * ((2 ^ (min (pl r) (pl q) + 1074).toNat : Nat) : Int) := by
    rw [signed_shift, ← signed_V]; congr 1; omega
  rw [e1, e2]
  have hp := Nat.two_pow_pos (min (pl r) (pl q) + 1074).toNat
  generalize (2 ^ (min (pl r) (pl q) + 1074).toNat) = c at hp
  generalize signed s (mg r) (pl r - min (pl r) (pl q)).toNat = A
  generalize signed t (mg q) (pl q - min (pl r) (pl q)).toNat = B
  have hc : (0 : Int) < c := by omega
  congr 1
  simp only [compare, compareOfLessAndEq]
  have i1 : A * c < B * c ↔ A < B := Int.mul_lt_mul_right hc
  have i2 : A * c = B * c ↔ A = B := Int.mul_eq_mul_right_iff (by omega)
  simp only [i1, i2]

theorem order_nan_l (s : Bool) (r x : Nat) (h : INF < r) (h' : r < 9223372036854775808) : double.order (W s r) x = none := by
  unfold Format.order; rw [read_nan s r h h']; rfl
theorem order_nan_r (s : Bool) (r x : Nat) (h : INF < r) (h' : r < 9223372036854775808) : double.order x (W s r) = none := by
  unfold Format.order; rw [read_nan s r h h']; cases double.read x <;> rfl
theorem order_inf_fin (s t : Bool) (q : Nat) (hq : q < INF) : double.order (W s INF) (W t q) = some (if s then .lt else .gt) := by
  unfold Format.order; rw [read_inf, read_fin t q hq]; rfl
theorem order_fin_inf (s t : Bool) (q : Nat) (hq : q < INF) : double.order (W t q) (W s INF) = some (if s then .gt else .lt) := by
  unfold Format.order; rw [read_inf, read_fin t q hq]; rfl
theorem order_inf_inf (s t : Bool) : double.order (W s INF) (W t INF) = some (compare t.toNat s.toNat) := by
  unfold Format.order; rw [read_inf, read_inf]; rfl
end Go.Proofs.YtacnclofbnafiabGreatDoor.Fl

namespace Go.Proofs.YtacnclofbnafiabGreatDoor.Fl
open Ieee

theorem pow_cmp (x y p q p' q' : Nat) (h : p + q' = p' + q) : x * 2 ^ p ≤ y * 2 ^ q ↔ x * 2 ^ p' ≤ y * 2 ^ q' := by
  have aux : ∀ c : Nat, 0 < c → ∀ a b : Nat, a ≤ b ↔ a * c ≤ b * c := fun c hc a b => ⟨fun h => Nat.mul_le_mul_right _ h, fun h => Nat.le_of_mul_le_mul_right h hc⟩
  rw [aux (2 ^ q') (Nat.two_pow_pos _) (x * 2 ^ p), aux (2 ^ q) (Nat.two_pow_pos _) (x * 2 ^ p')]
  simp only [Nat.mul_assoc, ← Nat.pow_add]
  rw [h, Nat.add_comm q q']

theorem divis (k a b Q : Nat) (hQ : 9007199254740992 ≤ Q) : (∃ c, M k * 2 ^ b = c * 2 ^ a) ∨ M k * 2 ^ b < Q * 2 ^ a := by
  unfold M
  generalize k / 4503599627370496 - 1 = e
  by_cases h : a ≤ e + b
  · left
    refine ⟨mg k * 2 ^ (e + b - a), ?_⟩
    rw [Nat.mul_assoc, ← Nat.pow_add, Nat.mul_assoc, ← Nat.pow_add]
    congr 2; omega
  · right
    rw [Nat.mul_assoc, ← Nat.pow_add]
    have h1 := mg_lt k
    have h2 : 2 ^ (e + b) ≤ 2 ^ a := Nat.pow_le_pow_right (by omega) (by omega)
    have h3 := Nat.two_pow_pos (e + b)
    calc mg k * 2 ^ (e + b) < Q * 2 ^ (e + b) := Nat.mul_lt_mul_of_pos_right (by omega) h3
      _ ≤ Q * 2 ^ a := Nat.mul_le_mul_left _ h2

/-- What is told by a last digit that only says whether anything is left. -/
theorem sticky (K a Q n rest : Nat) (hr : rest < n) (hK : (∃ c, K = c * 2 ^ a) ∨ K < Q * 2 ^ a) :
    (K * n ≤ (Q * n + rest) * 2 ^ a → K * 2 ≤ (2 * Q + (rest != 0).toNat) * 2 ^ a) ∧ ((Q * n + rest) * 2 ^ a ≤ K * n → (2 * Q + (rest != 0).toNat) * 2 ^ a ≤ K * 2) := by
  have hp := Nat.two_pow_pos a
  rcases hK with ⟨c, rfl⟩ | hlt
  · rw [Nat.mul_right_comm c _ n, Nat.mul_right_comm c _ 2]
    constructor
    · intro h
      have h1 := Nat.le_of_mul_le_mul_right h hp
      have h2 : c ≤ Q := by
        rcases Nat.lt_or_ge Q c with h' | h'
        · have h3 : (Q + 1) * n ≤ c * n := Nat.mul_le_mul_right _ h'
          rw [Nat.succ_mul] at h3; omega
        · exact h'
      exact Nat.mul_le_mul_right _ (by omega)
    · intro h
      have h1 := Nat.le_of_mul_le_mul_right h hp
      refine Nat.mul_le_mul_right _ ?_
      by_cases h0 : rest = 0
      · subst h0
        have : Q ≤ c := Nat.le_of_mul_le_mul_right (by omega : Q * n ≤ c * n) (by omega)
        simp; omega
      · have : Q < c := Nat.lt_of_mul_lt_mul_right (a := n) (by omega)
        have h2 : (rest != 0).toNat ≤ 1 := Bool.toNat_le _
        omega
  · constructor
    · intro _
      calc K * 2 ≤ Q * 2 ^ a * 2 := Nat.mul_le_mul_right _ (Nat.le_of_lt hlt)
        _ = (2 * Q) * 2 ^ a := by rw [Nat.mul_right_comm, Nat.mul_comm Q 2]
        _ ≤ _ := Nat.mul_le_mul_right _ (by omega)
    · intro h
      exfalso
      have h1 : K * n < Q * 2 ^ a * n := Nat.mul_lt_mul_of_pos_right hlt (by omega)
      rw [Nat.mul_right_comm] at h1
      have h2 : Q * n * 2 ^ a ≤ (Q * n + rest) * 2 ^ a := Nat.mul_le_mul_right _ (by omega)
      omega

theorem Rt_nonneg (N D v : Nat) : 0 ≤ Rt N D v ↔ v * D ≤ N := by unfold Rt; omega
theorem Rt_nonpos (N D v : Nat) : Rt N D v ≤ 0 ↔ N ≤ v * D := by unfold Rt; omega

theorem div_fin (s t : Bool) (r q : Nat) (hr : r < INF) (hq : q < INF) (hq0 : 0 < q) :
    ∃ z, double.div (W s r) (W t q) = some (W (s ^^ t) z) ∧ Faith (Rt (M r * U) (M q)) z := by
  unfold Format.div
  rw [read_fin s r hr, read_fin t q hq]
  have hn : mg q ≠ 0 := by
    intro h
    have := M_pos hq0
    unfold M at this; rw [h] at this; simp at this
  have hfr : double.fractionBits + 2 = 54 := rfl
  simp only [Datum.quotient, if_neg hn, Option.map_some, Format.write, hfr, Nat.shiftLeft_eq]
  generalize hmore : 54 + (mg q).log2 - (mg r).log2 = more
  obtain ⟨z, hz, hf⟩ := nearest_faith (s ^^ t) (2 * (mg r * 2 ^ more / mg q) + (mg r * 2 ^ more % mg q != 0).toNat) (pl r - pl q - more - 1)
  refine ⟨z, by rw [hz, word_W], ?_⟩
  generalize hQ : mg r * 2 ^ more / mg q = Q at *
  generalize hrest : mg r * 2 ^ more % mg q = rest at *
  have hsplit : mg r * 2 ^ more = Q * mg q + rest := by
    rw [← hQ, ← hrest, Nat.mul_comm (_ / _)]; exact (Nat.div_add_mod _ _).symm
  have hrl : rest < mg q := by rw [← hrest]; exact Nat.mod_lt _ (by omega)
  by_cases hm : mg r = 0
  · have hM : M r = 0 := by unfold M; rw [hm]; simp
    have hQ0 : Q = 0 := by rw [← hQ, hm]; simp
    have hr0 : rest = 0 := by rw [← hrest, hm]; simp
    rw [hQ0, hr0] at hf
    rw [hM]
    refine hf.congr fun k _ => ?_
    rw [Rt_nonneg, Rt_nonneg, Rt_nonpos, Rt_nonpos]
    simp only [Nat.zero_mul, Nat.mul_zero, bne_self_eq_false, Bool.toNat_false, Nat.zero_add, Nat.zero_le, implies_true, and_true]
    intro h
    have h1 := M_pos hq0
    have : M k = 0 := by
      rcases Nat.eq_zero_or_pos (M k) with h' | h'
      · exact h'
      · have := Nat.mul_pos h' h1; omega
    rw [this]; simp
  have hQ53 : 9007199254740992 ≤ Q := by
    rw [← hQ]
    apply (Nat.le_div_iff_mul_le (by omega)).2
    have h1 : mg q < 2 ^ ((mg q).log2 + 1) := Nat.lt_log2_self
    have h2 : 2 ^ (mg r).log2 ≤ mg r := Nat.log2_self_le hm
    calc 9007199254740992 * mg q ≤ 9007199254740992 * 2 ^ ((mg q).log2 + 1) := Nat.mul_le_mul_left _ (Nat.le_of_lt h1)
      _ = 2 ^ ((mg q).log2 + 54) := by
        rw [show (mg q).log2 + 54 = ((mg q).log2 + 1) + 53 by omega, Nat.pow_add _ _ 53]; omega
      _ ≤ 2 ^ ((mg r).log2 + more) := Nat.pow_le_pow_right (by omega) (by omega)
      _ = 2 ^ (mg r).log2 * 2 ^ more := Nat.pow_add ..
      _ ≤ mg r * 2 ^ more := Nat.mul_le_mul_right _ h2
  have hr' := pl_ge r
  have hq' := pl_ge q
  have hE := EE_eq
  generalize hg : pl r - pl q - more + 1074 = g
  refine hf.congr fun k _ => ?_
  rw [Rt_nonneg, Rt_nonneg, Rt_nonpos, Rt_nonpos]
  obtain ⟨st1, st2⟩ := sticky (M k * 2 ^ (-g).toNat) g.toNat Q (mg q) rest hrl (divis k _ _ Q hQ53)
  rw [← hsplit] at st1 st2
  rw [M_pl r, M_pl q]; unfold U
  generalize hX : 2 * Q + (rest != 0).toNat = X at *
  have c1 : M k * (mg q * 2 ^ (pl q + 1074).toNat) ≤ mg r * 2 ^ (pl r + 1074).toNat * 2 ^ EE ↔ M k * 2 ^ (-g).toNat * mg q ≤ mg r * 2 ^ more * 2 ^ g.toNat := by
    rw [← Nat.mul_assoc, Nat.mul_right_comm (M k) (2 ^ _) (mg q), Nat.mul_assoc (mg r), ← Nat.pow_add, Nat.mul_assoc (mg r), ← Nat.pow_add]
    exact pow_cmp _ _ _ _ _ _ (by omega)
  have c2 : mg r * 2 ^ (pl r + 1074).toNat * 2 ^ EE ≤ M k * (mg q * 2 ^ (pl q + 1074).toNat) ↔ mg r * 2 ^ more * 2 ^ g.toNat ≤ M k * 2 ^ (-g).toNat * mg q := by
    rw [← Nat.mul_assoc, Nat.mul_right_comm (M k) (2 ^ _) (mg q), Nat.mul_assoc (mg r), ← Nat.pow_add, Nat.mul_assoc (mg r), ← Nat.pow_add]
    exact pow_cmp _ _ _ _ _ _ (by omega)
  have two : ∀ x y : Nat, x * 2 ^ y * 2 = x * 2 ^ (y + 1) := fun x y => by rw [Nat.mul_assoc, Nat.pow_succ]
  have c3 : M k * 2 ^ (-(pl r - pl q - more - 1 + 1074)).toNat ≤ X * 2 ^ (pl r - pl q - more - 1 + 1074).toNat ↔ M k * 2 ^ (-g).toNat * 2 ≤ X * 2 ^ g.toNat := by
    rw [two]
    exact pow_cmp _ _ _ _ _ _ (by omega)
  have c4 : X * 2 ^ (pl r - pl q - more - 1 + 1074).toNat ≤ M k * 2 ^ (-(pl r - pl q - more - 1 + 1074)).toNat ↔ X * 2 ^ g.toNat ≤ M k * 2 ^ (-g).toNat * 2 := by
    rw [two]
    exact pow_cmp _ _ _ _ _ _ (by omega)
  rw [c1, c2, c3, c4]
  exact ⟨st1, st2⟩

theorem rootFrom_spec (n : Nat) : ∀ todo root : Nat, root * root ≤ n → n < (root + 2 ^ todo) * (root + 2 ^ todo) →
    Datum.rootFrom n todo root * Datum.rootFrom n todo root ≤ n ∧ n < (Datum.rootFrom n todo root + 1) * (Datum.rootFrom n todo root + 1) := by
  intro todo
  induction todo with
  | zero => intro root h1 h2; exact ⟨h1, h2⟩
  | succ k ih =>
    intro root h1 h2
    unfold Datum.rootFrom
    dsimp only
    rw [Nat.one_shiftLeft]
    by_cases h : (root + 2 ^ k) * (root + 2 ^ k) ≤ n
    · rw [if_pos h]
      refine ih _ h ?_
      rw [show root + 2 ^ k + 2 ^ k = root + 2 ^ (k + 1) by rw [Nat.pow_succ]; omega]
      exact h2
    · rw [if_neg h]
      exact ih _ h1 (by omega)

def Sq (N : Nat) : Nat → Int := fun v => (N : Int) - (v * v : Nat)
theorem Sq_nonneg (N v : Nat) : 0 ≤ Sq N v ↔ v * v ≤ N := by unfold Sq; omega
theorem Sq_nonpos (N v : Nat) : Sq N v ≤ 0 ↔ N ≤ v * v := by unfold Sq; omega

theorem sq_le {a b : Nat} : a * a ≤ b * b ↔ a ≤ b := Nat.mul_self_le_mul_self_iff
theorem sq_lt {a b : Nat} : a * a < b * b ↔ a < b := Nat.mul_self_lt_mul_self_iff

theorem stickySq (K a w n : Nat) (h1 : w * w ≤ n) (h2 : n < (w + 1) * (w + 1)) (hK : (∃ c, K = c * 2 ^ a) ∨ K < w * 2 ^ a) :
    (K * K ≤ n * (2 ^ a * 2 ^ a) → K * 2 ≤ (2 * w + (w * w != n).toNat) * 2 ^ a) ∧ (n * (2 ^ a * 2 ^ a) ≤ K * K → (2 * w + (w * w != n).toNat) * 2 ^ a ≤ K * 2) := by
  have hp := Nat.two_pow_pos a
  generalize 2 ^ a = A at *
  have hA : 0 < A * A := Nat.mul_pos hp hp
  rcases hK with ⟨c, rfl⟩ | hlt
  · rw [Nat.mul_mul_mul_comm, Nat.mul_right_comm c _ 2]
    constructor
    · intro h
      have h3 := Nat.le_of_mul_le_mul_right h hA
      have h4 : c < w + 1 := sq_lt.1 (by omega)
      exact Nat.mul_le_mul_right _ (by omega)
    · intro h
      have h3 := Nat.le_of_mul_le_mul_right h hA
      refine Nat.mul_le_mul_right _ ?_
      by_cases h0 : w * w = n
      · have : w ≤ c := sq_le.1 (by omega)
        simp [h0]; omega
      · have : w < c := sq_lt.1 (by omega)
        have h2 : (w * w != n).toNat ≤ 1 := Bool.toNat_le _
        omega
  · constructor
    · intro _
      calc K * 2 ≤ w * A * 2 := Nat.mul_le_mul_right _ (Nat.le_of_lt hlt)
        _ = (2 * w) * A := by rw [Nat.mul_right_comm, Nat.mul_comm w 2]
        _ ≤ _ := Nat.mul_le_mul_right _ (by omega)
    · intro h
      exfalso
      have h3 : K * K < (w * A) * (w * A) := sq_lt.2 hlt
      rw [Nat.mul_mul_mul_comm] at h3
      have h4 : w * w * (A * A) ≤ n * (A * A) := Nat.mul_le_mul_right _ h1
      omega

theorem sqrt_fin (r : Nat) (hr : r < INF) (hr0 : 0 < r) :
    ∃ z, double.sqrt (W false r) = some (W false z) ∧ Faith (Sq (M r * U)) z := by
  unfold Format.sqrt
  rw [read_fin false r hr]
  have hm : mg r ≠ 0 := by
    intro h
    have := M_pos hr0
    unfold M at this; rw [h] at this; simp at this
  have hfr : double.fractionBits + 2 = 54 := rfl
  simp only [Datum.root, if_neg hm, Bool.false_eq_true, if_false, Option.map_some, Format.write, hfr, Nat.shiftLeft_eq]
  generalize hmore : 2 * 54 - (mg r).log2 + ((pl r - ((2 * 54 - (mg r).log2 : Nat) : Int)) % 2).toNat = more
  generalize hn : mg r * 2 ^ more = n
  generalize hw : Datum.rootFrom n (n.log2 / 2 + 1) 0 = w
  obtain ⟨z, hz, hf⟩ := nearest_faith false (2 * w + (w * w != n).toNat) ((pl r - more) / 2 - 1)
  refine ⟨z, by rw [hz, word_W], ?_⟩
  have hr' := pl_ge r
  have hE := EE_eq
  have hnlt : n < 2 ^ (n.log2 + 1) := Nat.lt_log2_self
  have hspec := rootFrom_spec n (n.log2 / 2 + 1) 0 (by omega) (by
    rw [Nat.zero_add, ← Nat.pow_add]
    exact Nat.lt_of_lt_of_le hnlt (Nat.pow_le_pow_right (by omega) (by omega)))
  rw [hw] at hspec
  obtain ⟨w1, w2⟩ := hspec
  have hbig : 2 ^ 108 ≤ n := by
    have h2 : 2 ^ (mg r).log2 ≤ mg r := Nat.log2_self_le hm
    rw [← hn]
    calc 2 ^ 108 ≤ 2 ^ ((mg r).log2 + more) := Nat.pow_le_pow_right (by omega) (by omega)
      _ = 2 ^ (mg r).log2 * 2 ^ more := Nat.pow_add ..
      _ ≤ mg r * 2 ^ more := Nat.mul_le_mul_right _ h2
  have hQ53 : 9007199254740992 ≤ w := by
    have : 18014398509481984 * 18014398509481984 < (w + 1) * (w + 1) := Nat.lt_of_le_of_lt hbig w2
    have := sq_lt.1 this
    omega
  have heven : ∃ h : Int, pl r - more = 2 * h := ⟨(pl r - more) / 2, by omega⟩
  obtain ⟨h, hh⟩ := heven
  have hh2 : (pl r - more) / 2 = h := by omega
  rw [hh2] at hf
  refine hf.congr fun k _ => ?_
  rw [Rt_nonneg, Rt_nonpos, Sq_nonneg, Sq_nonpos]
  obtain ⟨st1, st2⟩ := stickySq (M k * 2 ^ (-(h + 1074)).toNat) (h + 1074).toNat w n w1 w2 (divis k _ _ w hQ53)
  rw [← hn] at st1 st2
  rw [M_pl r]; unfold U
  generalize hX : 2 * w + (w * w != mg r * 2 ^ more).toNat = X at *
  rw [hn] at hX
  rw [hX]
  have c1 : M k * M k ≤ mg r * 2 ^ (pl r + 1074).toNat * 2 ^ EE ↔ M k * 2 ^ (-(h + 1074)).toNat * (M k * 2 ^ (-(h + 1074)).toNat) ≤ mg r * 2 ^ more * (2 ^ (h + 1074).toNat * 2 ^ (h + 1074).toNat) := by
    rw [Nat.mul_mul_mul_comm (M k), ← Nat.pow_add, ← Nat.pow_add, Nat.mul_assoc (mg r), ← Nat.pow_add, Nat.mul_assoc (mg r), ← Nat.pow_add]
    have := pow_cmp (M k * M k) (mg r) 0 ((pl r + 1074).toNat + EE) ((-(h + 1074)).toNat + (-(h + 1074)).toNat) (more + ((h + 1074).toNat + (h + 1074).toNat)) (by omega)
    simpa using this
  have c2 : mg r * 2 ^ (pl r + 1074).toNat * 2 ^ EE ≤ M k * M k ↔ mg r * 2 ^ more * (2 ^ (h + 1074).toNat * 2 ^ (h + 1074).toNat) ≤ M k * 2 ^ (-(h + 1074)).toNat * (M k * 2 ^ (-(h + 1074)).toNat) := by
    rw [Nat.mul_mul_mul_comm (M k), ← Nat.pow_add, ← Nat.pow_add, Nat.mul_assoc (mg r), ← Nat.pow_add, Nat.mul_assoc (mg r), ← Nat.pow_add]
    have := pow_cmp (mg r) (M k * M k) ((pl r + 1074).toNat + EE) 0 (more + ((h + 1074).toNat + (h + 1074).toNat)) ((-(h + 1074)).toNat + (-(h + 1074)).toNat) (by omega)
    simpa using this
  have two : ∀ x y : Nat, x * 2 ^ y * 2 = x * 2 ^ (y + 1) := fun x y => by rw [Nat.mul_assoc, Nat.pow_succ]
  have c3 : M k * 2 ^ (-(h - 1 + 1074)).toNat ≤ X * 2 ^ (h - 1 + 1074).toNat ↔ M k * 2 ^ (-(h + 1074)).toNat * 2 ≤ X * 2 ^ (h + 1074).toNat := by
    rw [two]
    exact pow_cmp _ _ _ _ _ _ (by omega)
  have c4 : X * 2 ^ (h - 1 + 1074).toNat ≤ M k * 2 ^ (-(h - 1 + 1074)).toNat ↔ X * 2 ^ (h + 1074).toNat ≤ M k * 2 ^ (-(h + 1074)).toNat * 2 := by
    rw [two]
    exact pow_cmp _ _ _ _ _ _ (by omega)
  rw [c1, c2, c3, c4]
  exact ⟨st1, st2⟩

end Go.Proofs.YtacnclofbnafiabGreatDoor.Fl

namespace Go.Proofs.YtacnclofbnafiabGreatDoor.Fl
open Ieee

theorem W_lt (s : Bool) (r : Nat) (h : r < 9223372036854775808) : W s r < 18446744073709551616 := by
  unfold W; split <;> omega

theorem Faith.exact {C : Nat → Int} {r k : Nat} (h : Faith C r) (hk : k ≤ INF) (e : C (M k) = 0) : r = k :=
  Nat.le_antisymm ((h.2 k hk).2 (by omega)) ((h.2 k hk).1 (by omega))

-- bits of words
theorem abs_bits (s : Bool) (r : Nat) (h : r < 9223372036854775808) : (bits .andNot .u64 (W s r : Int) 9223372036854775808).toNat = r := by
  have := u64_andNot_nat (W s r) 9223372036854775808 (W_lt s r h) (by decide)
  rw [show ((9223372036854775808 : Nat) : Int) = 9223372036854775808 from rfl] at this
  rw [this, Int.toNat_natCast]
  rw [show (18446744073709551615 - 9223372036854775808 : Nat) = 2 ^ 63 - 1 by decide, Nat.and_two_pow_sub_one_eq_mod]
  unfold W; cases s <;> simp <;> omega

theorem sign_bits (s : Bool) (r : Nat) (h : r < 9223372036854775808) : bits .and .u64 (W s r : Int) 9223372036854775808 = (W s 0 : Nat) := by
  have := u64_and_nat (W s r) 9223372036854775808 (W_lt s r h) (by decide)
  rw [show ((9223372036854775808 : Nat) : Int) = 9223372036854775808 from rfl] at this
  rw [this]
  rw [show (9223372036854775808 : Nat) = 2 ^ 63 by decide, nat_bit]
  congr 1
  unfold W; cases s
  · simp; omega
  · simp only [if_true]
    rw [show (2 ^ 63 : Nat) = 9223372036854775808 by decide]; omega

theorem or_sign (s : Bool) (r : Nat) (h : r < 9223372036854775808) : bits .or .u64 (r : Int) (W s 0 : Nat) = (W s r : Nat) := by
  have := u64_or_nat r (W s 0) (by omega) (W_lt s 0 (by decide))
  rw [this]
  congr 1
  rw [Nat.or_comm]
  have h1 := nat_join 63 (W s 0) r (by unfold W; cases s <;> decide) (by simpa using h)
  rw [h1]; unfold W; cases s <;> simp

/-- The exponent cleared. -/
theorem clear_bits (s : Bool) (r : Nat) (h : r < 9223372036854775808) : bits .andNot .u64 (W s r : Int) 9218868437227405312 = (W s (r % 4503599627370496) : Nat) := by
  have := u64_andNot_nat (W s r) 9218868437227405312 (W_lt s r h) (by decide)
  rw [show ((9218868437227405312 : Nat) : Int) = 9218868437227405312 from rfl] at this
  rw [this]
  congr 1
  rw [show (18446744073709551615 - 9218868437227405312 : Nat) = 2 ^ 63 ||| (2 ^ 52 - 1) by decide, Nat.and_or_distrib_left, nat_bit, Nat.and_two_pow_sub_one_eq_mod]
  rw [nat_join 63 _ _ (by rw [Nat.mul_mod_left]) (by
    have : W s r % 2 ^ 52 < 2 ^ 52 := Nat.mod_lt _ (by decide)
    exact Nat.lt_of_lt_of_le this (by decide))]
  rw [show (2 ^ 63 : Nat) = 9223372036854775808 by decide, show (2 ^ 52 : Nat) = 4503599627370496 by decide]
  unfold W; cases s
  · simp; omega
  · simp only [if_true]; omega

/-- An exponent set. -/
theorem set_nat (s : Bool) (k f : Nat) (hk : k < 2048) (hf : f < 4503599627370496) : W s f ||| k * 4503599627370496 = W s (k * 4503599627370496 + f) := by
  have j1 : f ||| k * 4503599627370496 = k * 4503599627370496 + f := by
    rw [Nat.or_comm]
    exact nat_join 52 (k * 4503599627370496) f (by rw [show (2 ^ 52 : Nat) = 4503599627370496 by decide]; exact Nat.mul_mod_left _ _) (by rw [show (2 ^ 52 : Nat) = 4503599627370496 by decide]; exact hf)
  cases s
  · unfold W; simpa using j1
  · unfold W
    simp only [if_true]
    have j2 := nat_join 63 9223372036854775808 f (by decide) (by rw [show (2 ^ 63 : Nat) = 9223372036854775808 by decide]; omega)
    have j3 := nat_join 63 9223372036854775808 (k * 4503599627370496 + f) (by decide) (by rw [show (2 ^ 63 : Nat) = 9223372036854775808 by decide]; omega)
    rw [← j2, Nat.or_assoc, j1, j3]

theorem set_bits (s : Bool) (k f : Nat) (hk : k < 2048) (hf : f < 4503599627370496) : bits .or .u64 (W s f : Int) ((k * 4503599627370496 : Nat) : Int) = (W s (k * 4503599627370496 + f) : Nat) := by
  have := u64_or_nat (W s f) (k * 4503599627370496) (W_lt s f (by omega)) (by omega)
  rw [this, set_nat s k f hk hf]

/-- The exponent's field. -/
theorem field_eq (s : Bool) (r : Nat) (h : r < 9223372036854775808) : W s r / 4503599627370496 % 2048 = r / 4503599627370496 := by
  unfold W; cases s <;> simp <;> omega

-- what is next
def nextUp (s : Bool) (r : Nat) : Nat := if r = 0 then W false 1 else if s then W true (r - 1) else if r = INF then W false r else W false (r + 1)
def nextDn (s : Bool) (r : Nat) : Nat := if r = 0 then W true 1 else if s then (if r = INF then W true r else W true (r + 1)) else W false (r - 1)

theorem V_zero (s : Bool) : V s 0 = 0 := by unfold V; rw [M_zero]; cases s <;> simp
theorem V_pos {r : Nat} (h : 0 < r) : 0 < V false r := by have := M_pos h; simp [V]; omega
theorem V_neg {r : Nat} (h : 0 < r) : V true r < 0 := by have := M_pos h; simp [V]; omega

-- comparisons
theorem W_zero : W false 0 = 0 := by simp [W]
theorem order_self (s : Bool) (r : Nat) (h : r ≤ INF) : double.order (W s r) (W s r) = some .eq := by
  by_cases e : r = INF
  · subst e; rw [order_inf_inf]; cases s <;> rfl
  · rw [order_fin s s r r (by omega) (by omega)]; simp
theorem order_zero' (s : Bool) (r : Nat) (h : r < 9223372036854775808) : (double.order (W s r) (W false 0) == some .eq) = decide (r = 0) := by
  by_cases h1 : r < INF
  · rw [order_fin s false r 0 h1 (by decide), V_zero]
    by_cases e : r = 0
    · subst e; rw [V_zero]; simp
    · have h0 : 0 < r := by omega
      have : compare (V s r) 0 ≠ .eq := by
        cases s
        · have := V_pos h0; intro h; rw [Int.compare_eq_eq] at h; omega
        · have := V_neg h0; intro h; rw [Int.compare_eq_eq] at h; omega
      simp [e, this]
  · have hn : r ≠ 0 := by rw [INF_eq] at h1; omega
    by_cases e : r = INF
    · subst e; rw [order_inf_fin s false 0 (by decide)]; cases s <;> simp [hn]
    · rw [order_nan_l s r _ (by omega) h]
      simp [hn]
theorem order_zero (s : Bool) (r : Nat) (h : r < 9223372036854775808) : (double.order (W s r) 0 == some .eq) = decide (r = 0) := by
  have := order_zero' s r h
  rwa [W_zero] at this
theorem order_top (r q : Nat) (hq : q + 1 = INF) (h : r < 9223372036854775808) : (double.order (W false r) (W false q) == some .gt) = decide (r = INF) := by
  have hq' : q < INF := by omega
  by_cases h1 : r < INF
  · rw [order_fin false false r _ h1 hq']
    have h2 : r ≤ q := by omega
    have : V false r ≤ V false q := by have := M_le h2; unfold V; simp only [Bool.false_eq_true, if_false]; omega
    have hne : compare (V false r) (V false q) ≠ .gt := by intro h; rw [Int.compare_eq_gt] at h; omega
    have hn : r ≠ INF := by omega
    simp [hne, hn]
  · by_cases e : r = INF
    · subst e; rw [order_inf_fin false false _ hq']; simp
    · rw [order_nan_l false r _ (by omega) h]; simp [e]
theorem W_false (r : Nat) : W false r = r := by simp [W]
theorem MAX_eq : 9218868437227405311 + 1 = INF := by rw [INF_eq]
theorem order_max (r : Nat) (h : r < 9223372036854775808) : (double.order (W false r) 9218868437227405311 == some .gt) = decide (r = INF) := by
  have := order_top r 9218868437227405311 MAX_eq h
  rwa [W_false 9218868437227405311] at this
theorem V_lt_pos (r q : Nat) : V false r < V false q ↔ r < q := by
  unfold V; simp only [Bool.false_eq_true, if_false]
  exact ⟨fun h => lt_of_M (by omega), fun h => by have := M_lt h; omega⟩
theorem order_lt_pos (r q : Nat) (hr : r < INF) (hq : q < INF) : (double.order (W false r) (W false q) == some .lt) = decide (r < q) := by
  rw [order_fin false false r q hr hq]
  by_cases hl : r < q
  · rw [Int.compare_eq_lt.2 ((V_lt_pos r q).2 hl)]; simp [hl]
  · have hn : compare (V false r) (V false q) ≠ .lt := by rw [Ne, Int.compare_eq_lt, V_lt_pos]; exact hl
    simp [hl, hn]
end Go.Proofs.YtacnclofbnafiabGreatDoor.Fl

namespace Go.Proofs.YtacnclofbnafiabGreatDoor.Fl
open Ieee

/-- The rung of a small one times 2^52. -/
def big (r : Nat) : Nat := r.log2 * 4503599627370496 + r * 2 ^ (52 - r.log2)
theorem big_spec (r : Nat) (h0 : 0 < r) (h : r < 4503599627370496) : 4503599627370496 ≤ big r ∧ big r < INF ∧ M (big r) = r * 4503599627370496 := by
  have hl : r.log2 < 52 := (Nat.log2_lt (by omega)).2 (by simpa using h)
  have h1 : r < 2 ^ (r.log2 + 1) := Nat.lt_log2_self
  have h2 : 2 ^ r.log2 ≤ r := Nat.log2_self_le (by omega)
  have a1 : 4503599627370496 ≤ r * 2 ^ (52 - r.log2) := by
    calc 4503599627370496 = 2 ^ r.log2 * 2 ^ (52 - r.log2) := by rw [← Nat.pow_add, show r.log2 + (52 - r.log2) = 52 by omega]
      _ ≤ _ := Nat.mul_le_mul_right _ h2
  have a2 : r * 2 ^ (52 - r.log2) < 9007199254740992 := by
    calc r * 2 ^ (52 - r.log2) < 2 ^ (r.log2 + 1) * 2 ^ (52 - r.log2) := Nat.mul_lt_mul_of_pos_right h1 (Nat.two_pow_pos _)
      _ = 9007199254740992 := by rw [← Nat.pow_add, show r.log2 + 1 + (52 - r.log2) = 53 by omega]
  refine ⟨by unfold big; omega, by rw [INF_eq]; unfold big; omega, ?_⟩
  unfold big
  rw [M_pack _ _ (by omega) (by omega), Nat.mul_assoc, ← Nat.pow_add, show 52 - r.log2 + r.log2 = 52 by omega]

theorem M_small (r : Nat) (h : r < 4503599627370496) : M r = r := by
  unfold M mg
  rw [if_pos h, show r / 4503599627370496 - 1 = 0 by omega]; simp

/-- A normal one: its digits. -/
theorem M_norm (r : Nat) (h : 4503599627370496 ≤ r) : M r = (4503599627370496 + r % 4503599627370496) * 2 ^ (r / 4503599627370496 - 1) := by
  unfold M mg
  rw [if_neg (by omega)]

theorem M_of_pow (e R : Nat) (h : R = (e + 1) * 4503599627370496) : M R = 4503599627370496 * 2 ^ e := by
  have hR : R = e * 4503599627370496 + 4503599627370496 := by omega
  rw [hR]
  exact M_pack e 4503599627370496 (by omega) (by omega)
theorem U_split (a b : Nat) (h : a + b = EE) : U = 2 ^ a * 2 ^ b := by
  unfold U; rw [← h, Nat.pow_add]
theorem p52 : 2 ^ 52 = 4503599627370496 := by decide
theorem p53 : 2 ^ 53 = 9007199254740992 := by decide

/-- 2^52 as a word, and its worth. -/
theorem M_two52 : M 4841369599423283200 = 4503599627370496 * U := by
  obtain ⟨e, he⟩ : ∃ e, e = EE := ⟨_, rfl⟩
  unfold U
  rw [← he]
  exact M_of_pow e _ (by have := EE_eq; omega)
theorem M_oneW : M 4607182418800017408 = U := by
  obtain ⟨e, he⟩ : ∃ e, e = 1022 := ⟨_, rfl⟩
  rw [M_of_pow e _ (by omega), U_split 52 e (by have := EE_eq; omega), p52]
theorem M_two53 : M 4368491638549381120 * 9007199254740992 = U := by
  obtain ⟨e, he⟩ : ∃ e, e = 969 := ⟨_, rfl⟩
  obtain ⟨e', he'⟩ : ∃ e', e' = 52 + e := ⟨_, rfl⟩
  rw [M_of_pow e _ (by omega), U_split e' 53 (by have := EE_eq; omega), p53, he', Nat.pow_add, p52]

theorem mul_big (s : Bool) (r : Nat) (h0 : 0 < r) (h : r < 4503599627370496) : double.mul (W s r) 4841369599423283200 = some (W s (big r)) := by
  obtain ⟨b1, b2, b3⟩ := big_spec r h0 h
  obtain ⟨z, hz, hf⟩ := mul_fin s false r 4841369599423283200 (by rw [INF_eq]; omega) (by rw [INF_eq]; omega)
  rw [W_false 4841369599423283200] at hz
  have : z = big r := hf.exact (Nat.le_of_lt b2) (by
    unfold Rt; rw [b3, M_two52, M_small r h, Nat.mul_assoc]; omega)
  rw [hz, this]; simp

theorem pow_eq (x y p q p' q' : Nat) (h : p + q' = p' + q) : x * 2 ^ p = y * 2 ^ q ↔ x * 2 ^ p' = y * 2 ^ q' := by
  have h1 := pow_cmp x y p q p' q' h
  have h2 := pow_cmp y x q p q' p' (by omega)
  omega

/-- What math.normalize makes of a rung; its exponent. -/
def nr (r : Nat) : Nat := if r < 4503599627370496 then big r else r
def eo (r : Nat) : Int := if r < 4503599627370496 then -52 else 0
/-- The 53 digits of a number. -/
def mant (r : Nat) : Nat := 4503599627370496 + nr r % 4503599627370496
/-- The exponent that Frexp gives. -/
def fe (r : Nat) : Int := eo r + ((nr r / 4503599627370496 : Nat) : Int) - 1022
theorem mant_ge (r : Nat) : 4503599627370496 ≤ mant r := by unfold mant; omega
theorem mant_lt (r : Nat) : mant r < 9007199254740992 := by unfold mant; omega
theorem nr_spec (r : Nat) (h0 : 0 < r) (h : r < INF) : 4503599627370496 ≤ nr r ∧ nr r < INF := by
  unfold nr; split
  · rename_i h1; have := big_spec r h0 h1; exact ⟨this.1, this.2.1⟩
  · omega
theorem fe_bd (r : Nat) (h0 : 0 < r) (h : r < INF) : -1073 ≤ fe r ∧ fe r ≤ 1024 := by
  obtain ⟨h1, h2⟩ := nr_spec r h0 h
  rw [INF_eq] at h2
  unfold fe eo; split <;> omega
theorem nr_ge (r : Nat) (h0 : 0 < r) : 4503599627370496 ≤ nr r := by
  unfold nr; split
  · rename_i h1; exact (big_spec r h0 h1).1
  · omega
theorem M_fe (r : Nat) (h0 : 0 < r) : M r * 2 ^ (-(fe r + 1021)).toNat = mant r * 2 ^ (fe r + 1021).toNat := by
  have h1 := nr_ge r h0
  have hM := M_norm (nr r) h1
  unfold fe mant
  by_cases hb : r < 4503599627370496
  · have e1 : nr r = big r := by unfold nr; rw [if_pos hb]
    have e2 : eo r = -52 := by unfold eo; rw [if_pos hb]
    rw [e1] at hM h1 ⊢
    rw [(big_spec r h0 hb).2.2] at hM
    rw [e2, M_small r hb]
    refine (pow_eq r _ 52 (big r / 4503599627370496 - 1) _ _ ?_).1 ?_
    · omega
    · rw [p52, hM]
  · have e1 : nr r = r := by unfold nr; rw [if_neg hb]
    have e2 : eo r = 0 := by unfold eo; rw [if_neg hb]
    rw [e1] at hM h1 ⊢
    rw [e2]
    refine (pow_eq (M r) _ 0 (r / 4503599627370496 - 1) _ _ ?_).1 ?_
    · omega
    · rw [Nat.pow_zero, Nat.mul_one, hM]
end Go.Proofs.YtacnclofbnafiabGreatDoor.Fl

namespace Go.Proofs.YtacnclofbnafiabGreatDoor.Fl
open Ieee

/-- The field of the exponent, behind a name. -/
def fld (q : Nat) : Nat := q / 4503599627370496
/-- 'x << 52' of a uint64. -/
def sh52 (x : Int) : Int := x * 4503599627370496 % 18446744073709551616
/-- An exponent's field and a fraction. -/
def stE (y : Int) (f : Nat) : Nat := y.toNat * 4503599627370496 + f
theorem or52 (s : Bool) (f : Nat) (y : Int) (hf : f < 4503599627370496) (h0 : 0 ≤ y) (h1 : y ≤ 2047) : bits .or .u64 (W s f : Int) (sh52 y) = (W s (stE y f) : Nat) := by
  have h := set_bits s y.toNat f (by omega) hf
  have e : sh52 y = ((y.toNat * 4503599627370496 : Nat) : Int) := by unfold sh52; omega
  rw [e]; exact h

theorem Rt_exact (z D : Nat) (hD : 0 < D) (hz : z ≤ INF) : Faith (Rt (M z * D) D) z := by
  refine ⟨hz, fun k _ => ⟨fun h => ?_, fun h => ?_⟩⟩
  · rw [Rt_nonneg] at h; exact le_of_M (Nat.le_of_mul_le_mul_right h hD)
  · rw [Rt_nonpos] at h; exact le_of_M (Nat.le_of_mul_le_mul_right h hD)

theorem mul_one' (s : Bool) (z : Nat) (hz : z < INF) : double.mul 4607182418800017408 (W s z) = some (W s z) := by
  obtain ⟨z', h, hf⟩ := mul_fin false s 4607182418800017408 z (by rw [INF_eq]; omega) hz
  rw [W_false 4607182418800017408] at h
  have : z' = z := hf.exact (Nat.le_of_lt hz) (by
    unfold Rt; rw [M_oneW, Nat.mul_comm]; omega)
  rw [h, this]; simp

theorem mul_half53 (s : Bool) (z : Nat) (hz : z < INF) : ∃ z', double.mul 4368491638549381120 (W s z) = some (W s z') ∧ Faith (Rt (M z) 9007199254740992) z' := by
  obtain ⟨z', h, hf⟩ := mul_fin false s 4368491638549381120 z (by rw [INF_eq]; omega) hz
  rw [W_false 4368491638549381120] at h
  refine ⟨z', by rw [h]; simp, Rt_scale (by omega) ?_ hf⟩
  rw [← M_two53, Nat.mul_comm (M 4368491638549381120) (M z), Nat.mul_assoc]

/-- The exponent at which Ldexp ends. -/
def lx (r : Nat) (n : Int) : Int := n + eo r + (fld (nr r) - 1023)
def LdOk (r : Nat) (n : Int) (z : Nat) : Prop := Faith (Rt (M r * 2 ^ n.toNat) (2 ^ (-n).toNat)) z

theorem LdOk_of (r : Nat) (n : Int) (z : Nat) (h0 : 0 < r) (h : Faith (Rt (mant r * 2 ^ (lx r n + 1022).toNat) (2 ^ (-(lx r n + 1022)).toNat)) z) : LdOk r n z := by
  refine Rt_scale (Nat.two_pow_pos _) ?_ h
  have h1 := M_fe r h0
  have h2 : fe r + 1021 = lx r n + 1022 - n := by unfold fe lx fld; omega
  rw [h2] at h1
  rw [Nat.mul_assoc, ← Nat.pow_add, Nat.mul_assoc, ← Nat.pow_add]
  exact (pow_eq (mant r) (M r) _ _ _ _ (by omega)).1 h1.symm

theorem Ld_A (r : Nat) (n : Int) (h0 : 0 < r) (hx : lx r n < -1075) : LdOk r n 0 := by
  refine LdOk_of r n 0 h0 ⟨Nat.zero_le _, fun k _ => ⟨fun h => ?_, fun _ => Nat.zero_le _⟩⟩
  rw [Rt_nonneg, show (lx r n + 1022).toNat = 0 by omega, Nat.pow_zero, Nat.mul_one] at h
  have hm := mant_lt r
  have hp : 2 ^ 53 ≤ 2 ^ (-(lx r n + 1022)).toNat := Nat.pow_le_pow_right (by omega) (by omega)
  rw [p53] at hp
  rcases Nat.eq_zero_or_pos k with h' | h'
  · omega
  · have h1 := M_pos h'
    have : 1 * 2 ^ (-(lx r n + 1022)).toNat ≤ M k * 2 ^ (-(lx r n + 1022)).toNat := Nat.mul_le_mul_right _ h1
    omega
theorem M_INF (e : Nat) (he : e = 2046) : M INF = 4503599627370496 * 2 ^ e := M_of_pow e _ (by rw [INF_eq]; omega)
theorem Ld_B (r : Nat) (n : Int) (h0 : 0 < r) (hx : 1023 < lx r n) : LdOk r n INF := by
  refine LdOk_of r n INF h0 ⟨Nat.le_refl _, fun k hk => ⟨fun _ => hk, fun h => ?_⟩⟩
  rw [Rt_nonpos, show (-(lx r n + 1022)).toNat = 0 by omega, Nat.pow_zero, Nat.mul_one] at h
  obtain ⟨e, he⟩ : ∃ e : Nat, e = 2046 := ⟨_, rfl⟩
  have hI := M_INF e he
  have hm := mant_ge r
  have hp : 2 ^ e ≤ 2 ^ (lx r n + 1022).toNat := Nat.pow_le_pow_right (by omega) (by omega)
  have : M INF ≤ mant r * 2 ^ (lx r n + 1022).toNat := by rw [hI]; exact Nat.mul_le_mul hm hp
  exact le_of_M (by omega)
theorem stE_C (r : Nat) (y : Int) (h0 : 1 ≤ y) (h1 : y ≤ 2046) : stE y (nr r % 4503599627370496) < INF ∧ M (stE y (nr r % 4503599627370496)) = mant r * 2 ^ (y - 1).toNat := by
  have hm := mant_lt r
  have hm' := mant_ge r
  have e : stE y (nr r % 4503599627370496) = (y - 1).toNat * 4503599627370496 + mant r := by unfold stE mant; omega
  rw [e]
  exact ⟨by rw [INF_eq]; omega, M_pack _ _ (by omega) (by omega)⟩
theorem Ld_C (r : Nat) (n : Int) (h0 : 0 < r) (hx : -1022 ≤ lx r n) (hx' : lx r n ≤ 1023) : LdOk r n (stE (lx r n + 1023) (nr r % 4503599627370496)) := by
  obtain ⟨h1, h2⟩ := stE_C r (lx r n + 1023) (by omega) (by omega)
  refine LdOk_of r n _ h0 ?_
  have e : (lx r n + 1023 - 1).toNat = (lx r n + 1022).toNat := by omega
  rw [e] at h2
  rw [← h2, show (-(lx r n + 1022)).toNat = 0 by omega, Nat.pow_zero]
  have := Rt_exact (stE (lx r n + 1023) (nr r % 4503599627370496)) 1 (by omega) (Nat.le_of_lt h1)
  rwa [Nat.mul_one] at this
theorem Ld_D (r : Nat) (n : Int) (z : Nat) (h0 : 0 < r) (hx : -1075 ≤ lx r n) (hx' : lx r n < -1022)
    (h : Faith (Rt (M (stE (lx r n + 53 + 1023) (nr r % 4503599627370496))) 9007199254740992) z) : LdOk r n z := by
  obtain ⟨h1, h2⟩ := stE_C r (lx r n + 53 + 1023) (by omega) (by omega)
  refine LdOk_of r n _ h0 ?_
  rw [h2] at h
  refine Rt_scale (Nat.two_pow_pos _) ?_ h
  rw [show (lx r n + 1022).toNat = 0 by omega, Nat.pow_zero, Nat.mul_one, Nat.mul_assoc, ← Nat.pow_add, ← p53]
  congr 2; omega
end Go.Proofs.YtacnclofbnafiabGreatDoor.Fl

namespace Go.Proofs.YtacnclofbnafiabGreatDoor.Fl
open Ieee

/-- The sign falls: a cut. -/
def Anti (C : Nat → Int) : Prop := ∀ a b, a < b → 0 ≤ C b → 0 < C a
theorem Anti.neg {C : Nat → Int} (h : Anti C) {a b : Nat} (hab : a < b) (ha : C a ≤ 0) : C b < 0 := by
  rcases Int.lt_or_le (C b) 0 with h' | h'
  · exact h'
  · have := h a b hab h'; omega

/-- The rung below and the rung above what is exact. -/
structure LoHi (C : Nat → Int) (lo hi : Nat) : Prop where
  lo_lt : lo < INF
  hi_le : hi ≤ INF
  lo_ok : 0 ≤ C (M lo)
  lo_next : lo + 1 < INF → C (M (lo + 1)) < 0
  hi_ok : hi < INF → C (M hi) ≤ 0
  hi_prev : 0 < hi → 0 < C (M (hi - 1))

theorem LoHi.unique {C : Nat → Int} (hC : Anti C) {lo hi lo' hi' : Nat} (h : LoHi C lo hi) (h' : LoHi C lo' hi') : lo = lo' ∧ hi = hi' := by
  have aux : ∀ {lo hi lo' hi' : Nat}, LoHi C lo hi → LoHi C lo' hi' → lo ≤ lo' := by
    intro lo hi lo' hi' h h'
    rcases Nat.lt_or_ge lo' lo with g | g
    · have h1 := h.lo_lt
      have h2 := h'.lo_next (by omega)
      rcases Nat.lt_or_eq_of_le (show lo' + 1 ≤ lo by omega) with e | e
      · have := hC _ _ (M_lt e) h.lo_ok; omega
      · have := h.lo_ok; rw [← e] at this; omega
    · exact g
  have aux2 : ∀ {lo hi lo' hi' : Nat}, LoHi C lo hi → LoHi C lo' hi' → hi ≤ hi' := by
    intro lo hi lo' hi' h h'
    rcases Nat.lt_or_ge hi' hi with g | g
    · have h1 := h.hi_prev (by omega)
      have h2 := h'.hi_ok (by have := h.hi_le; omega)
      rcases Nat.lt_or_eq_of_le (show hi' ≤ hi - 1 by omega) with e | e
      · have := hC.neg (M_lt e) h2; omega
      · rw [← e] at h1; omega
    · exact g
  exact ⟨Nat.le_antisymm (aux h h') (aux h' h), Nat.le_antisymm (aux2 h h') (aux2 h' h)⟩

theorem INF_pos : 0 < INF := by rw [INF_eq]; omega
theorem INF_lt : INF < 9223372036854775808 := by rw [INF_eq]; omega
/-- OF A NEIGHBOUR, AND ON WHICH SIDE IT LIES, THE TWO RUNGS. 'm': the sign of what is exact less the neighbour; of infinity -1. -/
theorem LoHi.of_near {C : Nat → Int} {z : Nat} (m : Int) (hz : Faith C z) (h0 : 0 ≤ C 0)
    (hi : z = INF → m < 0) (hp : z < INF → 0 < m → 0 < C (M z)) (hq : z < INF → m < 0 → C (M z) < 0) (hr : z < INF → m = 0 → C (M z) = 0) :
    LoHi C (if m < 0 then z - 1 else z) (if 0 < m then z + 1 else z) := by
  obtain ⟨h1, h2⟩ := hz
  have hne : ∀ k, k ≤ INF → k < z → 0 < C (M k) := by
    intro k hk hkz
    rcases Int.lt_or_le 0 (C (M k)) with g | g
    · exact g
    · have := (h2 k hk).2 g; omega
  have hne' : ∀ k, k ≤ INF → z < k → C (M k) < 0 := by
    intro k hk hkz
    rcases Int.lt_or_le (C (M k)) 0 with g | g
    · exact g
    · have := (h2 k hk).1 g; omega
  rcases Int.lt_trichotomy m 0 with hm | hm | hm
  · have hz0 : 0 < z := by
      rcases Nat.eq_zero_or_pos z with e | e
      · subst e
        have := hq INF_pos hm
        rw [M_zero] at this; omega
      · exact e
    rw [if_pos hm, if_neg (by omega)]
    exact ⟨by omega, h1, Int.le_of_lt (hne _ (by omega) (by omega)), fun h => by
      rw [show z - 1 + 1 = z by omega] at h ⊢; exact hq h hm, fun h => Int.le_of_lt (hq h hm), fun _ => hne _ (by omega) (by omega)⟩
  · have hzI : z < INF := by
      rcases Nat.lt_or_eq_of_le h1 with e | e
      · exact e
      · have := hi e; omega
    have h3 := hr hzI hm
    rw [if_neg (by omega), if_neg (by omega)]
    exact ⟨hzI, h1, by omega, fun h => hne' _ (by omega) (by omega), fun _ => by omega, fun h => hne _ (by omega) (by omega)⟩
  · have hzI : z < INF := by
      rcases Nat.lt_or_eq_of_le h1 with e | e
      · exact e
      · have := hi e; omega
    have h3 := hp hzI hm
    rw [if_neg (by omega), if_pos hm]
    exact ⟨hzI, by omega, by omega, fun h => hne' _ (by omega) (by omega), fun h => Int.le_of_lt (hne' _ (by omega) (by omega)), fun _ => by
      rw [show z + 1 - 1 = z by omega]; exact h3⟩

/-- What is exact, at the scale of a fraction (C') and at its own (C): 2^n lies between. -/
structure Scaled (C C' : Nat → Int) (n : Int) (l : Nat) : Prop where
  anti : Anti C
  anti' : Anti C'
  pos : 0 < C 0
  near : Faith C' l
  low : 9007199254740992 < M (l - 1)
  top : l + 1 < INF
  link : ∀ v v' : Nat, v' * 2 ^ n.toNat = v * 2 ^ (-n).toNat → (0 ≤ C v ↔ 0 ≤ C' v') ∧ (C v ≤ 0 ↔ C' v' ≤ 0)

/-- What a rung is at the scale of the fraction. -/
theorem at_scale (k : Nat) (n : Int) (h0 : 0 < k) (hE : 0 ≤ fe k + 1021 - n) : mant k * 2 ^ (fe k + 1021 - n).toNat * 2 ^ n.toNat = M k * 2 ^ (-n).toNat := by
  have h := M_fe k h0
  rw [Nat.mul_assoc, ← Nat.pow_add]
  exact (pow_eq (mant k) (M k) _ _ _ _ (by omega)).1 h.symm
theorem below_scale (k : Nat) (n : Int) (h0 : 0 < k) (hE : fe k + 1021 - n < 0) : mant k * 2 ^ n.toNat = M k * 2 ^ (-(fe k + 1021 - n)).toNat * 2 ^ (-n).toNat := by
  have h := M_fe k h0
  rw [Nat.mul_assoc, ← Nat.pow_add]
  exact (pow_eq (mant k) (M k) _ _ _ _ (by omega)).1 h.symm
/-- A rung for 53 digits at an exponent, or they are too great. -/
theorem rung_of (k E : Nat) : (∃ j, j < INF ∧ M j = mant k * 2 ^ E) ∨ M INF ≤ mant k * 2 ^ E := by
  have h1 := mant_lt k
  have h2 := mant_ge k
  by_cases hE : E < 2046
  · left
    exact ⟨E * 4503599627370496 + mant k, by rw [INF_eq]; omega, M_pack _ _ (by omega) (by omega)⟩
  · right
    obtain ⟨e, he⟩ : ∃ e : Nat, e = 2046 := ⟨_, rfl⟩
    rw [M_INF e he]
    exact Nat.mul_le_mul h2 (Nat.pow_le_pow_right (by omega) (by omega))

theorem Scaled.lt_low {C C' : Nat → Int} {n : Int} {l : Nat} (H : Scaled C C' n l) : M (l - 1) < M l := by
  have h := H.low
  rcases Nat.eq_zero_or_pos l with e | e
  · subst e; rw [M_zero] at h; omega
  · exact M_lt (by omega)
theorem Scaled.low_pos {C C' : Nat → Int} {n : Int} {l : Nat} (H : Scaled C C' n l) : 0 < C' (M (l - 1)) := by
  have h1 := H.near
  have h2 := lt_of_M H.lt_low
  rcases Int.lt_or_le 0 (C' (M (l - 1))) with g | g
  · exact g
  · have := (h1.2 (l - 1) (by have := H.top; omega)).2 g; omega
theorem Scaled.top_neg {C C' : Nat → Int} {n : Int} {l : Nat} (H : Scaled C C' n l) : C' (M (l + 1)) < 0 := by
  have h1 := H.near
  rcases Int.lt_or_le (C' (M (l + 1))) 0 with g | g
  · exact g
  · have := (h1.2 (l + 1) (by have := H.top; omega)).1 g; omega

theorem Scaled.up {C C' : Nat → Int} {n : Int} {l : Nat} (H : Scaled C C' n l) (k : Nat) (h : 0 ≤ C (M k)) : M k * 2 ^ (-n).toNat ≤ M l * 2 ^ n.toNat := by
  rcases Nat.eq_zero_or_pos k with e | h0
  · subst e; rw [M_zero, Nat.zero_mul]; exact Nat.zero_le _
  rcases Int.lt_or_le (fe k + 1021 - n) 0 with hE | hE
  · have h1 := below_scale k n h0 hE
    have h2 := mant_lt k
    have h3 := H.low
    have h4 := H.lt_low
    have h5 : M k * 2 ^ (-n).toNat ≤ M k * 2 ^ (-(fe k + 1021 - n)).toNat * 2 ^ (-n).toNat := by
      refine Nat.mul_le_mul_right _ (Nat.le_mul_of_pos_right _ (Nat.two_pow_pos _))
    have h6 : mant k * 2 ^ n.toNat ≤ M l * 2 ^ n.toNat := Nat.mul_le_mul_right _ (by omega)
    omega
  · have h1 := at_scale k n h0 hE
    rw [← h1]
    refine Nat.mul_le_mul_right _ ?_
    have h2 := ((H.link _ _ h1).1).1 h
    rcases rung_of k (fe k + 1021 - n).toNat with ⟨j, hj, hM⟩ | hM
    · rw [← hM] at h2 ⊢
      exact M_le ((H.near.2 j (by omega)).1 h2)
    · exfalso
      have h3 := M_lt H.top
      have h4 := H.anti' _ _ (Nat.lt_of_lt_of_le h3 hM) h2
      have := H.top_neg
      omega
theorem Scaled.down {C C' : Nat → Int} {n : Int} {l : Nat} (H : Scaled C C' n l) (k : Nat) (h : C (M k) ≤ 0) : M l * 2 ^ n.toNat ≤ M k * 2 ^ (-n).toNat := by
  rcases Nat.eq_zero_or_pos k with e | h0
  · subst e; rw [M_zero] at h; have := H.pos; omega
  rcases Int.lt_or_le (fe k + 1021 - n) 0 with hE | hE
  · exfalso
    have h1 := below_scale k n h0 hE
    have h2 := mant_lt k
    have h3 := H.low
    have h5 := M_pos h0
    have h4 : M k < M k * 2 ^ (-(fe k + 1021 - n)).toNat := by
      have : 2 ^ 1 ≤ 2 ^ (-(fe k + 1021 - n)).toNat := Nat.pow_le_pow_right (by omega) (by omega)
      have := Nat.mul_le_mul_left (M k) this
      omega
    have h6 := H.anti.neg h4 h
    have h7 := ((H.link _ _ h1).2).1 (Int.le_of_lt h6)
    have h8 := H.anti' (mant k) _ (by omega : mant k < M (l - 1)) (Int.le_of_lt H.low_pos)
    omega
  · have h1 := at_scale k n h0 hE
    rw [← h1]
    refine Nat.mul_le_mul_right _ ?_
    have h2 := ((H.link _ _ h1).2).1 h
    rcases rung_of k (fe k + 1021 - n).toNat with ⟨j, hj, hM⟩ | hM
    · rw [← hM] at h2 ⊢
      exact M_le ((H.near.2 j (by omega)).2 h2)
    · have h3 := M_lt (show l < INF by have := H.top; omega)
      omega

/-- THE SCALED FRACTION's NEIGHBOUR IS ONE OF WHAT IS EXACT. -/
theorem Scaled.faith {C C' : Nat → Int} {n : Int} {l z : Nat} (H : Scaled C C' n l) (hz : LdOk l n z) : Faith C z := by
  obtain ⟨h1, h2⟩ := hz
  exact ⟨h1, fun k hk => ⟨fun h => (h2 k hk).1 ((Rt_nonneg _ _ _).2 (H.up k h)), fun h => (h2 k hk).2 ((Rt_nonpos _ _ _).2 (H.down k h))⟩⟩

/-- THE SIDE: the fraction against what the neighbour is at its scale. -/
theorem Scaled.side_gt {C C' : Nat → Int} {n : Int} {l z y : Nat} (H : Scaled C C' n l) (hy : LdOk z (-n) y) (h : y < l) : 0 < C (M z) := by
  rcases Int.lt_or_le 0 (C (M z)) with g | g
  · exact g
  · exfalso
    have h1 := H.down z g
    have h2 := (hy.2 l (by have := H.top; omega)).1 ((Rt_nonneg _ _ _).2 (by rwa [Int.neg_neg]))
    omega
theorem Scaled.side_lt {C C' : Nat → Int} {n : Int} {l z y : Nat} (H : Scaled C C' n l) (hy : LdOk z (-n) y) (h : l < y) : C (M z) < 0 := by
  rcases Int.lt_or_le (C (M z)) 0 with g | g
  · exact g
  · exfalso
    have h1 := H.up z g
    have h2 := (hy.2 l (by have := H.top; omega)).2 ((Rt_nonpos _ _ _).2 (by rwa [Int.neg_neg]))
    omega
theorem Scaled.side_eq {C C' : Nat → Int} {n : Int} {l z y : Nat} (H : Scaled C C' n l) (h0 : 0 < z) (hy : LdOk z (-n) y) (h : l = y) :
    (0 ≤ C (M z) ↔ 0 ≤ C' (M l)) ∧ (C (M z) ≤ 0 ↔ C' (M l) ≤ 0) := by
  refine H.link _ _ ?_
  have hl := H.low
  have hlt := H.lt_low
  have htop := H.top
  subst h
  unfold LdOk at hy
  rw [Int.neg_neg] at hy
  rcases Int.lt_or_le (fe z + 1021 - n) 0 with hE | hE
  · exfalso
    have h1 := below_scale z n h0 hE
    have h2 := mant_lt z
    have h5 : M z * 2 ^ (-n).toNat ≤ M z * 2 ^ (-(fe z + 1021 - n)).toNat * 2 ^ (-n).toNat := by
      refine Nat.mul_le_mul_right _ (Nat.le_mul_of_pos_right _ (Nat.two_pow_pos _))
    have h6 : mant z * 2 ^ n.toNat ≤ M (l - 1) * 2 ^ n.toNat := Nat.mul_le_mul_right _ (by omega)
    have h7 := (hy.2 (l - 1) (by omega)).2 ((Rt_nonpos _ _ _).2 (by omega))
    have := lt_of_M hlt
    omega
  · have h1 := at_scale z n h0 hE
    rcases rung_of z (fe z + 1021 - n).toNat with ⟨j, hj, hM⟩ | hM
    · rw [← hM] at h1
      have : l = j := hy.exact (Nat.le_of_lt hj) (by unfold Rt; rw [← h1]; omega)
      rw [this]; exact h1
    · exfalso
      have h3 : M INF * 2 ^ n.toNat ≤ M z * 2 ^ (-n).toNat := by rw [← h1]; exact Nat.mul_le_mul_right _ hM
      have := (hy.2 INF (Nat.le_refl _)).1 ((Rt_nonneg _ _ _).2 h3)
      omega
end Go.Proofs.YtacnclofbnafiabGreatDoor.Fl

namespace Go.Proofs.YtacnclofbnafiabGreatDoor.Fl
open Ieee

theorem V_cmp_pos (r q : Nat) : compare (V false r) (V false q) = compare r q := by
  rcases Nat.lt_trichotomy r q with h | h | h
  · rw [Int.compare_eq_lt.2 ((V_lt_pos r q).2 h), Nat.compare_eq_lt.2 h]
  · subst h; simp
  · rw [Int.compare_eq_gt.2 ((V_lt_pos q r).2 h), Nat.compare_eq_gt.2 h]
theorem V_true (r : Nat) : V true r = - V false r := V_not false r
theorem V_cmp_neg (r q : Nat) : compare (V true r) (V true q) = compare q r := by
  have h1 := V_lt_pos r q
  have h2 := V_lt_pos q r
  rw [V_true, V_true]
  rcases Nat.lt_trichotomy r q with h | h | h
  · rw [Nat.compare_eq_gt.2 h, Int.compare_eq_gt.2]; have := h1.2 h; omega
  · subst h; simp
  · rw [Nat.compare_eq_lt.2 h, Int.compare_eq_lt.2]; have := h2.2 h; omega

/-- Two of one sign, by their rungs. -/
theorem order_mag (s : Bool) (r q : Nat) (hr : r ≤ INF) (hq : q ≤ INF) : double.order (W s r) (W s q) = some (if s then compare q r else compare r q) := by
  rcases Nat.lt_or_eq_of_le hr with hr' | hr'
  · rcases Nat.lt_or_eq_of_le hq with hq' | hq'
    · rw [order_fin s s r q hr' hq']
      cases s
      · rw [V_cmp_pos]; rfl
      · rw [V_cmp_neg]; rfl
    · subst hq'
      rw [order_fin_inf s s r hr', Nat.compare_eq_lt.2 hr', Nat.compare_eq_gt.2 hr']
  · subst hr'
    rcases Nat.lt_or_eq_of_le hq with hq' | hq'
    · rw [order_inf_fin s s q hq', Nat.compare_eq_lt.2 hq', Nat.compare_eq_gt.2 hq']
    · subst hq'
      rw [order_inf_inf]; cases s <;> simp
theorem order_zero_cmp (s : Bool) (r : Nat) (h0 : 0 < r) (hr : r ≤ INF) : double.order (W s r) 0 = some (if s then .lt else .gt) := by
  have h := order_mag s r 0 hr (Nat.zero_le _)
  have e : double.order (W s r) (W false 0) = double.order (W s r) (W s 0) := by
    rcases Nat.lt_or_eq_of_le hr with hr' | hr'
    · rw [order_fin s false r 0 hr' INF_pos, order_fin s s r 0 hr' INF_pos, V_zero, V_zero]
    · subst hr'; rw [order_inf_fin s false 0 INF_pos, order_inf_fin s s 0 INF_pos]
  rw [W_zero] at e
  rw [e, h, Nat.compare_eq_lt.2 h0, Nat.compare_eq_gt.2 h0]
theorem order_zero_zero (s : Bool) : double.order (W s 0) 0 = some .eq := by
  have := order_fin s false 0 0 INF_pos INF_pos
  rw [W_zero] at this
  rw [this, V_zero, V_zero]; simp
/-- Against the infinity of the other sign. -/
theorem order_far (s : Bool) (r : Nat) (hr : r ≤ INF) : double.order (W s r) (W (!s) INF) = some (if s then .lt else .gt) ∧ double.order (W (!s) INF) (W s r) = some (if s then .gt else .lt) := by
  rcases Nat.lt_or_eq_of_le hr with hr' | hr'
  · rw [order_fin_inf (!s) s r hr', order_inf_fin (!s) s r hr']; cases s <;> exact ⟨rfl, rfl⟩
  · subst hr'; rw [order_inf_inf, order_inf_inf]; cases s <;> exact ⟨rfl, rfl⟩
end Go.Proofs.YtacnclofbnafiabGreatDoor.Fl

namespace Go.Proofs.YtacnclofbnafiabGreatDoor.Fl
open Ieee

theorem Rt_anti (N D : Nat) (hD : 0 < D) : Anti (Rt N D) := by
  intro a b hab h
  rw [Rt_nonneg] at h
  have := Nat.mul_lt_mul_of_pos_right hab hD
  unfold Rt; omega
theorem Sq_anti (N : Nat) : Anti (Sq N) := by
  intro a b hab h
  rw [Sq_nonneg] at h
  have := sq_lt.2 hab
  unfold Sq; omega

theorem le_cancel {a b c : Nat} (hc : 0 < c) : a ≤ b ↔ a * c ≤ b * c := ⟨fun h => Nat.mul_le_mul_right _ h, fun h => Nat.le_of_mul_le_mul_right h hc⟩

theorem link_ratio {N D N' D' : Nat} {n : Int} (hD : 0 < D) (hD' : 0 < D') (e : N * D' * 2 ^ (-n).toNat = N' * D * 2 ^ n.toNat) (v v' : Nat) (hv : v' * 2 ^ n.toNat = v * 2 ^ (-n).toNat) :
    (0 ≤ Rt N D v ↔ 0 ≤ Rt N' D' v') ∧ (Rt N D v ≤ 0 ↔ Rt N' D' v' ≤ 0) := by
  rw [Rt_nonneg, Rt_nonneg, Rt_nonpos, Rt_nonpos]
  have p1 := Nat.two_pow_pos (-n).toNat
  have p2 := Nat.two_pow_pos n.toNat
  generalize 2 ^ (-n).toNat = A at *
  generalize 2 ^ n.toNat = B at *
  have q1 : 0 < D' * A := Nat.mul_pos hD' p1
  have q2 : 0 < D * B := Nat.mul_pos hD p2
  have r1 : v * D * (D' * A) = v' * D' * (D * B) := by
    have : v * D * (D' * A) = v * A * (D * D') := by simp only [Nat.mul_left_comm, Nat.mul_comm]
    rw [this, ← hv]; simp only [Nat.mul_left_comm, Nat.mul_comm]
  have r2 : N * (D' * A) = N' * (D * B) := by
    rw [← Nat.mul_assoc, e, Nat.mul_assoc]
  constructor
  · rw [le_cancel q1, r1, r2, ← le_cancel q2]
  · rw [le_cancel q1, r1, r2, ← le_cancel q2]
theorem link_sq {N N' : Nat} {n : Int} (e : N * (2 ^ (-n).toNat * 2 ^ (-n).toNat) = N' * (2 ^ n.toNat * 2 ^ n.toNat)) (v v' : Nat) (hv : v' * 2 ^ n.toNat = v * 2 ^ (-n).toNat) :
    (0 ≤ Sq N v ↔ 0 ≤ Sq N' v') ∧ (Sq N v ≤ 0 ↔ Sq N' v' ≤ 0) := by
  rw [Sq_nonneg, Sq_nonneg, Sq_nonpos, Sq_nonpos]
  have p1 := Nat.two_pow_pos (-n).toNat
  have p2 := Nat.two_pow_pos n.toNat
  generalize 2 ^ (-n).toNat = A at *
  generalize 2 ^ n.toNat = B at *
  have q1 : 0 < A * A := Nat.mul_pos p1 p1
  have q2 : 0 < B * B := Nat.mul_pos p2 p2
  have r1 : v * v * (A * A) = v' * v' * (B * B) := by
    rw [Nat.mul_mul_mul_comm, ← hv, Nat.mul_mul_mul_comm]
  constructor
  · rw [le_cancel q1, r1, e, ← le_cancel q2]
  · rw [le_cancel q1, r1, e, ← le_cancel q2]

/-- The fraction of Frexp: its worth. -/
def frR (r : Nat) : Nat := 4598175219545276416 + mant r
theorem M_frR (r e : Nat) (he : e = 1021) : M (frR r) = mant r * 2 ^ e := by
  have h1 := mant_ge r
  have h2 := mant_lt r
  have h3 : frR r = e * 4503599627370496 + mant r := by unfold frR; omega
  rw [h3]
  exact M_pack e (mant r) (by omega) (by omega)
theorem frR_lt (r : Nat) : frR r < INF := by have := mant_lt r; rw [INF_eq]; unfold frR; omega
theorem M_fr (r : Nat) (h0 : 0 < r) : M r * 2 ^ (-(fe r)).toNat = M (frR r) * 2 ^ (fe r).toNat := by
  obtain ⟨e, he⟩ : ∃ e : Nat, e = 1021 := ⟨_, rfl⟩
  rw [M_frR r e he, Nat.mul_assoc, ← Nat.pow_add]
  exact (pow_eq _ _ _ _ _ _ (by omega)).1 (M_fe r h0)

/-- A rung at a power of 2. -/
theorem M_at (e : Nat) : M ((e + 1) * 4503599627370496) = 2 ^ (52 + e) := by
  rw [M_of_pow e _ rfl, Nat.pow_add, p52]
theorem mant_pow (r : Nat) : 2 ^ 52 ≤ mant r ∧ mant r < 2 ^ 53 := ⟨by rw [p52]; exact mant_ge r, by rw [p53]; exact mant_lt r⟩
theorem M_fr_pow (r e : Nat) (he : e = 1021) : 2 ^ (52 + e) ≤ M (frR r) ∧ M (frR r) < 2 ^ (53 + e) := by
  rw [M_frR r e he, Nat.pow_add, Nat.pow_add]
  exact ⟨Nat.mul_le_mul_right _ (mant_pow r).1, Nat.mul_lt_mul_of_pos_right (mant_pow r).2 (Nat.two_pow_pos _)⟩

/-- From loose bounds, what 'Scaled' asks. -/
theorem range_of {C' : Nat → Int} {l : Nat} (h : Faith C' l) (h1 : 0 ≤ C' (M (600 * 4503599627370496))) (h2 : C' (M (2000 * 4503599627370496)) ≤ 0) :
    9007199254740992 < M (l - 1) ∧ l + 1 < INF ∧ 600 * 4503599627370496 ≤ l ∧ l ≤ 2000 * 4503599627370496 := by
  have g1 := (h.2 _ (by rw [INF_eq]; omega)).1 h1
  have g2 := (h.2 _ (by rw [INF_eq]; omega)).2 h2
  refine ⟨?_, by rw [INF_eq]; omega, g1, g2⟩
  have g3 : M (3 * 4503599627370496) ≤ M (l - 1) := M_le (by omega)
  have g4 := M_at 2
  rw [show (2 + 1) * 4503599627370496 = 3 * 4503599627370496 by omega, show 2 ^ (52 + 2) = 18014398509481984 by decide] at g4
  omega
/-- Of a whole number of units: not lost. -/
theorem unit_pos {E : Int} {z : Nat} (h : Faith (Rt E.natAbs U) z) (hd : ∃ c : Int, E = c * U) : (E ≠ 0 → 0 < z) ∧ (E = 0 → z = 0) := by
  constructor
  · intro hE
    obtain ⟨c, hc⟩ := hd
    have hU := U_pos
    have : U ≤ E.natAbs := by
      rw [hc, Int.natAbs_mul, Int.natAbs_natCast]
      have : 1 ≤ c.natAbs := by
        have h0 : c ≠ 0 := by rintro rfl; simp at hc; exact hE hc
        omega
      calc U = 1 * U := (Nat.one_mul _).symm
        _ ≤ _ := Nat.mul_le_mul_right _ this
    have h1 := (h.2 1 (by rw [INF_eq]; omega)).1 ((Rt_nonneg _ _ _).2 (by rw [M_one]; omega))
    omega
  · rintro rfl
    have := h.exact (k := 0) (Nat.zero_le _) (by unfold Rt; rw [M_zero]; simp)
    exact this
/-- How a tail stands to 0. -/
theorem tail_order (sg : Bool) (z : Nat) (E : Int) (hz : z ≤ INF) (h1 : E ≠ 0 → 0 < z) (h2 : E = 0 → z = 0) (hs : SgnOk sg E) :
    double.order (W sg z) 0 = some (compare E 0) := by
  rcases Int.lt_trichotomy E 0 with h | h | h
  · have := hs.1 h
    subst this
    rw [order_zero_cmp true z (h1 (by omega)) hz, Int.compare_eq_lt.2 h]; rfl
  · have := h2 h
    subst this
    rw [order_zero_zero, h]; simp
  · have := hs.2 h
    subst this
    rw [order_zero_cmp false z (h1 (by omega)) hz, Int.compare_eq_gt.2 h]; rfl
end Go.Proofs.YtacnclofbnafiabGreatDoor.Fl

namespace Go.Proofs.YtacnclofbnafiabGreatDoor.Fl
open Ieee

theorem p2_le {a b : Nat} (h : a ≤ b) : 2 ^ a ≤ 2 ^ b := Nat.pow_le_pow_right (by omega) h
theorem M_600 (a : Nat) (ha : a = 651) : M (600 * 4503599627370496) = 2 ^ a := by
  obtain ⟨e, he⟩ : ∃ e : Nat, e = 599 := ⟨_, rfl⟩
  have h := M_at e
  rw [show (e + 1) * 4503599627370496 = 600 * 4503599627370496 by omega, show 52 + e = a by omega] at h
  exact h
theorem M_2000 (a : Nat) (ha : a = 2051) : M (2000 * 4503599627370496) = 2 ^ a := by
  obtain ⟨e, he⟩ : ∃ e : Nat, e = 1999 := ⟨_, rfl⟩
  have h := M_at e
  rw [show (e + 1) * 4503599627370496 = 2000 * 4503599627370496 by omega, show 52 + e = a by omega] at h
  exact h
theorem M_big (l : Nat) (h : 600 * 4503599627370496 ≤ l) : ∃ c, M l = c * 2 ^ 599 := by
  refine ⟨mg l * 2 ^ (l / 4503599627370496 - 1 - 599), ?_⟩
  unfold M
  obtain ⟨e, he⟩ : ∃ e : Nat, e = 599 := ⟨_, rfl⟩
  rw [← he, Nat.mul_assoc, ← Nat.pow_add]; congr 2; omega
theorem U_dvd (a b c d : Nat) (hab : EE ≤ b + d) : ∃ k, a * 2 ^ b * (c * 2 ^ d) = k * U := by
  refine ⟨a * c * 2 ^ (b + d - EE), ?_⟩
  unfold U
  have h : b + d - EE + EE = b + d := by omega
  rw [Nat.mul_mul_mul_comm, ← Nat.pow_add, Nat.mul_assoc (a * c), ← Nat.pow_add, h]

theorem prod_scaled (r q l : Nat) (hr0 : 0 < r) (hq0 : 0 < q) (hl : Faith (Rt (M (frR r) * M (frR q)) U) l) :
    Scaled (Rt (M r * M q) U) (Rt (M (frR r) * M (frR q)) U) (fe r + fe q) l ∧ 600 * 4503599627370496 ≤ l ∧ l ≤ 2000 * 4503599627370496 := by
  obtain ⟨e, he⟩ : ∃ e : Nat, e = 1021 := ⟨_, rfl⟩
  obtain ⟨a, ha⟩ : ∃ a : Nat, a = 651 := ⟨_, rfl⟩
  obtain ⟨b, hb⟩ : ∃ b : Nat, b = 2051 := ⟨_, rfl⟩
  have hE := EE_eq
  obtain ⟨r1, r2⟩ := M_fr_pow r e he
  obtain ⟨q1, q2⟩ := M_fr_pow q e he
  obtain ⟨g1, g2, g3⟩ := range_of hl (by
    rw [Rt_nonneg, M_600 a ha]
    calc 2 ^ a * U = 2 ^ (a + EE) := by unfold U; rw [Nat.pow_add]
      _ ≤ 2 ^ (52 + e + (52 + e)) := p2_le (by omega)
      _ = 2 ^ (52 + e) * 2 ^ (52 + e) := Nat.pow_add ..
      _ ≤ _ := Nat.mul_le_mul r1 q1) (by
    rw [Rt_nonpos, M_2000 b hb]
    calc M (frR r) * M (frR q) ≤ 2 ^ (53 + e) * 2 ^ (53 + e) := Nat.mul_le_mul (Nat.le_of_lt r2) (Nat.le_of_lt q2)
      _ = 2 ^ (53 + e + (53 + e)) := (Nat.pow_add ..).symm
      _ ≤ 2 ^ (b + EE) := p2_le (by omega)
      _ = 2 ^ b * U := by unfold U; rw [Nat.pow_add])
  refine ⟨⟨Rt_anti _ _ U_pos, Rt_anti _ _ U_pos, ?_, hl, g1, g2, ?_⟩, g3⟩
  · have := Nat.mul_pos (M_pos hr0) (M_pos hq0)
    unfold Rt; omega
  · refine link_ratio U_pos U_pos ?_
    have h1 := M_fr r hr0
    have h2 := M_fr q hq0
    have h3 : M r * M q * 2 ^ ((-(fe r)).toNat + (-(fe q)).toNat) = M (frR r) * M (frR q) * 2 ^ ((fe r).toNat + (fe q).toNat) := by
      rw [Nat.pow_add, Nat.pow_add, Nat.mul_mul_mul_comm, h1, h2, Nat.mul_mul_mul_comm]
    have h4 := (pow_eq _ _ _ _ (-(fe r + fe q)).toNat (fe r + fe q).toNat (by omega)).1 h3
    rw [Nat.mul_right_comm, h4, Nat.mul_right_comm]
/-- The fraction under the root, its exponent made even; the half of that. -/
def rr (r : Nat) : Nat := if fe r % 2 = 0 then frR r else frR r + 4503599627370496
def rn (r : Nat) : Int := fe r / 2
theorem M_rr (r e : Nat) (he : e = 1021) : M (rr r) = (if fe r % 2 = 0 then mant r else 2 * mant r) * 2 ^ e := by
  have h1 := mant_ge r
  have h2 := mant_lt r
  unfold rr
  split
  · exact M_frR r e he
  · have : frR r + 4503599627370496 = (e + 1) * 4503599627370496 + mant r := by unfold frR; omega
    rw [this, M_pack _ _ (by omega) (by omega), Nat.pow_succ, Nat.mul_comm (2 ^ e) 2, ← Nat.mul_assoc, Nat.mul_comm (mant r) 2]
theorem rr_lt (r : Nat) : rr r < INF := by have := mant_lt r; rw [INF_eq]; unfold rr frR; split <;> omega
theorem rr_pos (r : Nat) : 0 < rr r := by unfold rr frR; split <;> omega
theorem M_rr_pow (r e : Nat) (he : e = 1021) : 2 ^ (52 + e) ≤ M (rr r) ∧ M (rr r) < 2 ^ (54 + e) := by
  have h1 := (mant_pow r).1
  have h2 := (mant_pow r).2
  rw [M_rr r e he, Nat.pow_add, Nat.pow_add]
  have e54 : 2 ^ 54 = 2 * 2 ^ 53 := by decide
  exact ⟨Nat.mul_le_mul_right _ (by split <;> omega), Nat.mul_lt_mul_of_pos_right (by split <;> omega) (Nat.two_pow_pos _)⟩
theorem root_scaled (r l : Nat) (hr0 : 0 < r) (hl : Faith (Sq (M (rr r) * U)) l) :
    Scaled (Sq (M r * U)) (Sq (M (rr r) * U)) (rn r) l ∧ 600 * 4503599627370496 ≤ l ∧ l ≤ 2000 * 4503599627370496 := by
  obtain ⟨e, he⟩ : ∃ e : Nat, e = 1021 := ⟨_, rfl⟩
  obtain ⟨a, ha⟩ : ∃ a : Nat, a = 651 := ⟨_, rfl⟩
  obtain ⟨b, hb⟩ : ∃ b : Nat, b = 2051 := ⟨_, rfl⟩
  have hE := EE_eq
  obtain ⟨r1, r2⟩ := M_rr_pow r e he
  obtain ⟨g1, g2, g3⟩ := range_of hl (by
    rw [Sq_nonneg, M_600 a ha]
    calc 2 ^ a * 2 ^ a = 2 ^ (a + a) := (Nat.pow_add ..).symm
      _ ≤ 2 ^ (52 + e + EE) := p2_le (by omega)
      _ = 2 ^ (52 + e) * U := by unfold U; rw [Nat.pow_add]
      _ ≤ _ := Nat.mul_le_mul_right _ r1) (by
    rw [Sq_nonpos, M_2000 b hb]
    calc M (rr r) * U ≤ 2 ^ (54 + e) * U := Nat.mul_le_mul_right _ (Nat.le_of_lt r2)
      _ = 2 ^ (54 + e + EE) := by unfold U; rw [Nat.pow_add _ (54 + e) EE]
      _ ≤ 2 ^ (b + b) := p2_le (by omega)
      _ = 2 ^ b * 2 ^ b := Nat.pow_add ..)
  refine ⟨⟨Sq_anti _, Sq_anti _, ?_, hl, g1, g2, ?_⟩, g3⟩
  · have := Nat.mul_pos (M_pos hr0) U_pos
    unfold Sq; omega
  · refine link_sq ?_
    have h1 := M_fe r hr0
    rw [Nat.mul_right_comm (M r) U, Nat.mul_right_comm (M (rr r)) U, ← Nat.pow_add, ← Nat.pow_add]
    congr 1
    rw [M_rr r e he]
    by_cases hev : fe r % 2 = 0
    · rw [if_pos hev, Nat.mul_assoc, ← Nat.pow_add]
      exact (pow_eq _ _ _ _ _ _ (by unfold rn; omega)).1 h1
    · rw [if_neg hev, Nat.mul_assoc, ← Nat.pow_add, Nat.mul_comm 2 (mant r), Nat.mul_assoc, Nat.mul_comm 2, ← Nat.pow_succ]
      exact (pow_eq _ _ _ _ _ _ (by unfold rn; omega)).1 h1

-- the tails
theorem V_mul (s t : Bool) (a b : Nat) : V s a * V t b = if s ^^ t then -((M a * M b : Nat) : Int) else ((M a * M b : Nat) : Int) := by
  unfold V; cases s <;> cases t <;> simp [Int.neg_mul, Int.mul_neg]
theorem prod_tail (s t : Bool) (r q l : Nat) (E : Int) (hE : E = V s (frR r) * V t (frR q) + V (!(s ^^ t)) l * (U : Int)) :
    (E = if s ^^ t then -(Rt (M (frR r) * M (frR q)) U (M l)) else Rt (M (frR r) * M (frR q)) U (M l)) ∧ ∃ c : Int, E = c * U := by
  obtain ⟨e, he⟩ : ∃ e : Nat, e = 1021 := ⟨_, rfl⟩
  have hEE := EE_eq
  have h1 : E = if s ^^ t then -(Rt (M (frR r) * M (frR q)) U (M l)) else Rt (M (frR r) * M (frR q)) U (M l) := by
    rw [hE, V_mul]
    unfold V Rt
    cases s <;> cases t <;> simp [Int.neg_mul] <;> omega
  refine ⟨h1, ?_⟩
  obtain ⟨k, hk⟩ := U_dvd (mant r) e (mant q) e (by omega)
  rw [← M_frR r e he, ← M_frR q e he] at hk
  rw [hE, V_mul, hk]
  refine ⟨(if s ^^ t then -(k : Int) else k) + V (!(s ^^ t)) l, ?_⟩
  rw [Int.add_mul]
  congr 1
  split <;> simp [Int.neg_mul]
theorem root_tail (r l : Nat) (hl : 600 * 4503599627370496 ≤ l) (E : Int) (hE : E = V true l * V false l + V false (rr r) * (U : Int)) :
    E = Sq (M (rr r) * U) (M l) ∧ ∃ c : Int, E = c * U := by
  have hEE := EE_eq
  have h1 : E = Sq (M (rr r) * U) (M l) := by
    rw [hE, V_mul]
    unfold V Sq
    simp; omega
  refine ⟨h1, ?_⟩
  obtain ⟨c, hc⟩ := M_big l hl
  obtain ⟨k, hk⟩ := U_dvd c 599 c 599 (by omega)
  rw [← hc] at hk
  have hneg : V true l * V false l = -((M l * M l : Nat) : Int) := by rw [V_mul]; rfl
  rw [hE, hneg, hk]
  refine ⟨-(k : Int) + V false (rr r), ?_⟩
  rw [Int.add_mul, Int.neg_mul, Int.natCast_mul]
theorem V_natAbs (s : Bool) (r : Nat) : (V s r).natAbs = M r := by unfold V; cases s <;> simp
end Go.Proofs.YtacnclofbnafiabGreatDoor.Fl

namespace Go.Proofs.YtacnclofbnafiabGreatDoor.Fl
open Ieee

theorem write_inf (s : Bool) : double.write (.infinity s) = W s INF := by
  have h : double.write (.infinity s) = double.word s double.infRung := rfl
  have hi : double.infRung = INF := by rw [INF_eq]; decide
  rw [h, hi, word_W]
theorem mg_ne {q : Nat} (h : 0 < q) : mg q ≠ 0 := by
  intro h'
  have := M_pos h
  unfold M at this; rw [h'] at this; simp at this
theorem mul_inf_l (s t : Bool) (q : Nat) (h0 : 0 < q) (hq : q ≤ INF) : double.mul (W s INF) (W t q) = some (W (s ^^ t) INF) := by
  unfold Format.mul
  rw [read_inf]
  rcases Nat.lt_or_eq_of_le hq with h | h
  · rw [read_fin t q h]
    simp only [Datum.product, if_neg (mg_ne h0), Option.map_some, write_inf]
  · subst h
    rw [read_inf]
    simp only [Datum.product, Option.map_some, write_inf]
theorem mul_inf_r (s t : Bool) (q : Nat) (h0 : 0 < q) (hq : q ≤ INF) : double.mul (W t q) (W s INF) = some (W (t ^^ s) INF) := by
  unfold Format.mul
  rw [read_inf]
  rcases Nat.lt_or_eq_of_le hq with h | h
  · rw [read_fin t q h]
    simp only [Datum.product, if_neg (mg_ne h0), Option.map_some, write_inf, Bool.xor_comm]
  · subst h
    rw [read_inf]
    simp only [Datum.product, Option.map_some, write_inf]
theorem div_inf_l (s t : Bool) (q : Nat) (hq : q < INF) : double.div (W s INF) (W t q) = some (W (s ^^ t) INF) := by
  unfold Format.div
  rw [read_inf, read_fin t q hq]
  simp only [Datum.quotient, Option.map_some, write_inf]
theorem add_inf_l (s t : Bool) (q : Nat) (hq : q < INF) : double.add (W s INF) (W t q) = some (W s INF) := by
  unfold Format.add
  rw [read_inf, read_fin t q hq]
  simp only [Datum.sum, Option.map_some, write_inf]
theorem add_inf_r (s t : Bool) (q : Nat) (hq : q < INF) : double.add (W t q) (W s INF) = some (W s INF) := by
  unfold Format.add
  rw [read_inf, read_fin t q hq]
  simp only [Datum.sum, Option.map_some, write_inf]
theorem add_inf_inf (s : Bool) : double.add (W s INF) (W s INF) = some (W s INF) := by
  unfold Format.add
  rw [read_inf]
  simp only [Datum.sum, if_true, Option.map_some, write_inf]
theorem add_inf_not (s : Bool) : double.add (W s INF) (W (!s) INF) = none := by
  unfold Format.add
  rw [read_inf, read_inf]
  cases s <;> simp [Datum.sum]
theorem add_nan_l (s : Bool) (r y : Nat) (h : INF < r) (h' : r < 9223372036854775808) : double.add (W s r) y = none := by
  unfold Format.add
  rw [read_nan s r h h']; rfl
theorem add_nan_r (s : Bool) (r y : Nat) (h : INF < r) (h' : r < 9223372036854775808) : double.add y (W s r) = none := by
  unfold Format.add
  rw [read_nan s r h h']
  cases double.read y <;> rfl
theorem sub_inf_l (s t : Bool) (q : Nat) (hq : q < INF) : double.sub (W s INF) (W t q) = some (W s INF) := by
  unfold Format.sub
  rw [read_inf, read_fin t q hq]
  simp only [Datum.opposite, Datum.sum, Option.map_some, write_inf]
theorem sub_inf_r (s t : Bool) (q : Nat) (hq : q < INF) : double.sub (W t q) (W s INF) = some (W (!s) INF) := by
  unfold Format.sub
  rw [read_inf, read_fin t q hq]
  simp only [Datum.opposite, Datum.sum, Option.map_some, write_inf]
theorem order_gt_zero (s : Bool) (r : Nat) (h0 : 0 < r) (hr : r ≤ INF) : (double.order (W s r) 0 == some .lt) = s := by
  rw [order_zero_cmp s r h0 hr]; cases s <;> rfl
theorem sqrt_zero (s : Bool) : double.sqrt (W s 0) = some (W s 0) := by
  unfold Format.sqrt
  rw [read_fin s 0 INF_pos]
  have h : mg 0 = 0 := by unfold mg; simp
  simp only [Datum.root, h, if_true, Option.map_some, Format.write]
  obtain ⟨z, hz, hf⟩ := nearest_faith s 0 (pl 0)
  rw [hz, word_W]
  have : z = 0 := hf.exact (Nat.zero_le _) (by unfold Rt; rw [M_zero]; simp)
  rw [this]
/-- Twice a fraction. -/
theorem mul_two (F : Nat) (hF : 4503599627370496 ≤ F) (hI : F + 4503599627370496 < INF) : double.mul 4611686018427387904 (W false F) = some (W false (F + 4503599627370496)) := by
  obtain ⟨z, hz, hf⟩ := mul_fin false false 4611686018427387904 F (by rw [INF_eq]; omega) (by omega)
  rw [W_false 4611686018427387904] at hz
  have e1 : M 4611686018427387904 = 2 * U := by
    obtain ⟨e, he⟩ : ∃ e : Nat, e = 1023 := ⟨_, rfl⟩
    obtain ⟨e', he'⟩ : ∃ e' : Nat, e' = 1022 := ⟨_, rfl⟩
    rw [M_of_pow e _ (by omega), U_split 52 e' (by have := EE_eq; omega), p52, show e = e' + 1 by omega, Nat.pow_succ]
    omega
  have e2 : M (F + 4503599627370496) = 2 * M F := by
    rw [M_norm _ (by omega), M_norm F hF]
    rw [show (F + 4503599627370496) % 4503599627370496 = F % 4503599627370496 by omega, show (F + 4503599627370496) / 4503599627370496 - 1 = (F / 4503599627370496 - 1) + 1 by omega, Nat.pow_succ]
    rw [← Nat.mul_assoc, Nat.mul_comm _ 2]
  have : z = F + 4503599627370496 := hf.exact (Nat.le_of_lt hI) (by
    unfold Rt; rw [e1, e2, Nat.mul_right_comm]; omega)
  rw [hz, this]; simp
theorem order_top_no (s : Bool) (r q : Nat) (hq : q + 1 = INF) (hr : r < INF) : (double.order (W s r) (W false q) == some .gt) = false := by
  rw [order_fin s false r q hr (by omega)]
  have h1 : V s r ≤ V false q := by
    have h2 := M_le (show r ≤ q by omega)
    unfold V; cases s <;> simp <;> omega
  have hn : compare (V s r) (V false q) ≠ .gt := by intro h; rw [Int.compare_eq_gt] at h; omega
  simp [hn]
theorem order_max_no (s : Bool) (r : Nat) (hr : r < INF) : (double.order (W s r) 9218868437227405311 == some .gt) = false := by
  have := order_top_no s r 9218868437227405311 MAX_eq hr
  rwa [W_false 9218868437227405311] at this
end Go.Proofs.YtacnclofbnafiabGreatDoor.Fl

namespace Go.Proofs.YtacnclofbnafiabGreatDoor.Fl
open Ieee

theorem rep (e : Nat) : ∀ j : Nat, j ≤ 9007199254740992 → ∃ k, M k = j * 2 ^ e := by
  induction e with
  | zero => intro j hj; exact ⟨0 * 4503599627370496 + j, M_pack 0 j hj (.inr rfl)⟩
  | succ n ih =>
    intro j hj
    by_cases h : 4503599627370496 ≤ j
    · exact ⟨_, M_pack (n + 1) j hj (.inl h)⟩
    · obtain ⟨k, hk⟩ := ih (2 * j) (by omega)
      refine ⟨k, ?_⟩
      rw [hk, Nat.pow_succ, Nat.mul_comm 2 j, Nat.mul_assoc, Nat.mul_comm 2]
def ex (r : Nat) : Nat := r / 4503599627370496 - 1
theorem M_ex (r : Nat) : M r = mg r * 2 ^ ex r := rfl
theorem ex_le {x y : Nat} (h : y ≤ x) : ex y ≤ ex x := by unfold ex; omega
theorem M_lt_ex (r : Nat) : M r < 9007199254740992 * 2 ^ ex r := by
  rw [M_ex]; exact Nat.mul_lt_mul_of_pos_right (mg_lt r) (Nat.two_pow_pos _)
theorem diff_rep (x y : Nat) (h : y ≤ x) (hd : M x - M y ≤ 9007199254740992 * 2 ^ ex y) : ∃ k, M k = M x - M y := by
  have h1 := ex_le h
  have h2 : M x = (mg x * 2 ^ (ex x - ex y)) * 2 ^ ex y := by
    rw [M_ex x, Nat.mul_assoc, ← Nat.pow_add]; congr 2; omega
  have h3 : M x - M y = (mg x * 2 ^ (ex x - ex y) - mg y) * 2 ^ ex y := by
    rw [h2, M_ex y, Nat.sub_mul]
  rw [h3] at hd ⊢
  exact rep _ _ (Nat.le_of_mul_le_mul_right hd (Nat.two_pow_pos _))
/-- Twice. -/
theorem M_double (r : Nat) : ∃ k, r ≤ k ∧ M k = 2 * M r := by
  obtain ⟨k, hk⟩ := rep (ex r + 1) (mg r) (Nat.le_of_lt (mg_lt r))
  have : M k = 2 * M r := by rw [hk, M_ex, Nat.pow_succ, Nat.mul_comm _ 2, Nat.mul_left_comm]
  exact ⟨k, le_of_M (by omega), this⟩
theorem M_half (r : Nat) (h : 9007199254740992 ≤ r) : 2 * M (r - 4503599627370496) = M r ∧ ex r = ex (r - 4503599627370496) + 1 := by
  have h1 : ex r = ex (r - 4503599627370496) + 1 := by unfold ex; omega
  have h2 : mg (r - 4503599627370496) = mg r := by
    unfold mg; rw [if_neg (by omega), if_neg (by omega)]; omega
  refine ⟨?_, h1⟩
  rw [M_ex, M_ex r, h1, h2, Nat.pow_succ, Nat.mul_comm _ 2, Nat.mul_left_comm]

/-- THE GREATER ONE FIRST: the rounded sum less it is exact. -/
theorem fast_same (r q l : Nat) (hqr : q ≤ r) (hl : Faith (Rt (M r + M q) 1) l) (hlI : l < INF) : ∃ k, k < INF ∧ M k = M l - M r ∧ M r ≤ M l := by
  have hq := M_le hqr
  have h1 : r ≤ l ∨ INF < r := by
    rcases Nat.lt_or_ge INF r with h | h
    · exact .inr h
    · exact .inl ((hl.2 r h).1 ((Rt_nonneg _ _ _).2 (by omega)))
  have hrI : ¬ INF < r := by
    intro h
    have := (hl.2 INF (Nat.le_refl _)).1 ((Rt_nonneg _ _ _).2 (by have := M_lt h; omega))
    omega
  have h1 : r ≤ l := by omega
  obtain ⟨k2, hk2, hM2⟩ := M_double r
  have h2 : M l ≤ 2 * M r := by
    rw [← hM2]
    rcases Nat.lt_or_ge INF k2 with h | h
    · exact M_le (by omega)
    · exact M_le ((hl.2 k2 h).2 ((Rt_nonpos _ _ _).2 (by omega)))
  have h3 := M_lt_ex r
  have h4 := M_le h1
  obtain ⟨k, hk⟩ := diff_rep l r h1 (by omega)
  exact ⟨k, lt_of_M (by have := M_lt hlI; omega), hk, h4⟩
theorem fast_diff (r q l : Nat) (hqr : q < r) (hr : r < INF) (hl : Faith (Rt (M r - M q) 1) l) : ∃ k, k < INF ∧ M k = M r - M l ∧ M l ≤ M r := by
  have hq := M_lt hqr
  have h1 : l ≤ r := (hl.2 r (Nat.le_of_lt hr)).2 ((Rt_nonpos _ _ _).2 (by omega))
  have h2 := M_le h1
  have hMI := M_lt hr
  have fin : ∀ k, M k = M r - M l → k < INF := fun k hk => lt_of_M (by omega)
  by_cases hbig : M r ≤ 2 * M q
  · have h3 := M_lt_ex q
    obtain ⟨k, hk⟩ := diff_rep r q (Nat.le_of_lt hqr) (by omega)
    have hkI : k < INF := lt_of_M (by omega)
    have : l = k := hl.exact (Nat.le_of_lt hkI) (by unfold Rt; omega)
    refine ⟨q, by omega, ?_, h2⟩
    rw [this, hk]; omega
  · have h3 : M r - M l ≤ 9007199254740992 * 2 ^ ex l := by
      have h4 := M_lt_ex r
      by_cases he : ex r = ex l
      · rw [← he]; omega
      · have h5 := ex_le h1
        have h6 : 9007199254740992 ≤ r := by unfold ex at he h5; omega
        obtain ⟨h7, h8⟩ := M_half r h6
        have h9 := (hl.2 (r - 4503599627370496) (by omega)).1 ((Rt_nonneg _ _ _).2 (by omega))
        have h10 := M_le h9
        have h11 := ex_le h9
        have h12 : 2 ^ ex (r - 4503599627370496) ≤ 2 ^ ex l := Nat.pow_le_pow_right (by omega) h11
        have h13 := M_lt_ex (r - 4503599627370496)
        have h14 : 9007199254740992 * 2 ^ ex (r - 4503599627370496) ≤ 9007199254740992 * 2 ^ ex l := Nat.mul_le_mul_left _ h12
        omega
    obtain ⟨k, hk⟩ := diff_rep r l h1 h3
    exact ⟨k, fin k hk, hk, h2⟩

/-- What sumOf's tail is: a + b less the lead, where that is a number. -/
theorem fast_sum (s t : Bool) (r q : Nat) (hqr : q ≤ r) (hr : r < INF) (hq : q < INF) :
    ∃ sg l T, double.add (W s r) (W t q) = some (W sg l) ∧ Faith (Rt (V s r + V t q).natAbs 1) l ∧ SgnOk sg (V s r + V t q)
      ∧ (∃ d, double.sub (W sg l) (W s r) = some d ∧ double.sub (W t q) d = some T) ∧ double.order T T = some .eq
      ∧ ((l < INF ∧ double.order T 0 = some (compare (V s r + V t q - V sg l) 0)) ∨ (l = INF ∧ double.order T 0 = some (if sg then .gt else .lt))) := by
  obtain ⟨sg, l, h1, h2, h3, h4⟩ := add_fin s t r q hr hq
  rcases Nat.lt_or_eq_of_le h2.1 with hlI | hlI
  · -- the lead is a number
    have hex : ∃ k, k < INF ∧ M k = (V sg l - V s r).natAbs := by
      rcases Nat.lt_or_eq_of_le hqr with hlt | heq
      · have hM := M_lt hlt
        by_cases hst : s = t
        · subst hst
          have hE : (V s r + V s q).natAbs = M r + M q := by unfold V; cases s <;> simp <;> omega
          rw [hE] at h2
          have hsg : sg = s := by
            cases s
            · exact h3.2 (by unfold V; simp; omega)
            · exact h3.1 (by unfold V; simp; omega)
          subst hsg
          obtain ⟨k, hk, hMk, hle⟩ := fast_same r q l hqr h2 hlI
          refine ⟨k, hk, ?_⟩
          rw [hMk]; unfold V; cases sg <;> simp <;> omega
        · have ht : t = !s := by cases s <;> cases t <;> simp at hst ⊢
          subst ht
          have hE : (V s r + V (!s) q).natAbs = M r - M q := by unfold V; cases s <;> simp <;> omega
          rw [hE] at h2
          have hsg : sg = s := by
            cases s
            · exact h3.2 (by unfold V; simp; omega)
            · exact h3.1 (by unfold V; simp; omega)
          subst hsg
          obtain ⟨k, hk, hMk, hle⟩ := fast_diff r q l hlt hr h2
          refine ⟨k, hk, ?_⟩
          rw [hMk]; unfold V; cases sg <;> simp <;> omega
      · subst heq
        by_cases hst : s = t
        · subst hst
          have hE : (V s q + V s q).natAbs = M q + M q := by unfold V; cases s <;> simp <;> omega
          rw [hE] at h2
          rcases Nat.eq_zero_or_pos q with h0 | h0
          · subst h0
            have hl0 : l = 0 := h2.exact (Nat.zero_le _) (by unfold Rt; rw [M_zero]; simp)
            subst hl0
            exact ⟨0, hr, by rw [V_zero, V_zero, M_zero]; rfl⟩
          · have hM := M_pos h0
            have hsg : sg = s := by
              cases s
              · exact h3.2 (by unfold V; simp; omega)
              · exact h3.1 (by unfold V; simp; omega)
            subst hsg
            obtain ⟨k, hk, hMk, hle⟩ := fast_same q q l (Nat.le_refl _) h2 hlI
            refine ⟨k, hk, ?_⟩
            rw [hMk]; unfold V; cases sg <;> simp <;> omega
        · have ht : t = !s := by cases s <;> cases t <;> simp at hst ⊢
          subst ht
          have hE : (V s q + V (!s) q).natAbs = 0 := by unfold V; cases s <;> simp <;> omega
          rw [hE] at h2
          have hl0 : l = 0 := h2.exact (Nat.zero_le _) (by unfold Rt; rw [M_zero]; simp)
          subst hl0
          refine ⟨q, hq, ?_⟩
          rw [V_zero]; unfold V; cases s <;> simp
    obtain ⟨k, hk, hMk⟩ := hex
    obtain ⟨u, z1, g1, g2, g3, _⟩ := sub_fin sg s l r hlI hr
    have hz1 : z1 = k := g2.exact (Nat.le_of_lt hk) (by unfold Rt; rw [hMk]; omega)
    subst hz1
    have hV : V u z1 = V sg l - V s r := by
      rcases Int.lt_trichotomy (V sg l - V s r) 0 with h | h | h
      · rw [g3.1 h]; unfold V at *; simp; omega
      · have : z1 = 0 := by
          rw [h] at hMk
          rcases Nat.eq_zero_or_pos z1 with e | e
          · exact e
          · have := M_pos e; simp at hMk; omega
        subst this; rw [V_zero, h]
      · rw [g3.2 h]; unfold V at *; simp; omega
    obtain ⟨v, z2, k1, k2, k3, _⟩ := sub_fin t u q z1 hq hk
    rw [hV] at k2 k3
    have hEq : V t q - (V sg l - V s r) = V s r + V t q - V sg l := by omega
    rw [hEq] at k2 k3
    refine ⟨sg, l, W v z2, h1, h2, h3, ⟨_, g1, k1⟩, order_self v z2 k2.1, .inl ⟨hlI, ?_⟩⟩
    refine tail_order v z2 _ k2.1 (fun h => ?_) (fun h => ?_) k3
    · have := (k2.2 1 (by rw [INF_eq]; omega)).1 ((Rt_nonneg _ _ _).2 (by rw [M_one]; omega))
      omega
    · rw [h] at k2
      exact k2.exact (Nat.zero_le _) (by unfold Rt; rw [M_zero]; simp)
  · subst hlI
    refine ⟨sg, INF, W (!sg) INF, h1, h2, h3, ⟨_, sub_inf_l sg s r hr, sub_inf_r sg t q hq⟩, order_self _ _ (Nat.le_refl _), .inr ⟨rfl, ?_⟩⟩
    rw [order_zero_cmp (!sg) INF INF_pos (Nat.le_refl _)]; cases sg <;> rfl
end Go.Proofs.YtacnclofbnafiabGreatDoor.Fl
