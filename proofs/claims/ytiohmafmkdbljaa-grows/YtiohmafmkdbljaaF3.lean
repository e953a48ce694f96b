import Derived.Test.YtiohmafmkdbljaaF2
namespace Go.Proofs.Ytiohmafmkdbljaa.Fl
open Ieee

theorem pow_cmp (x y p q p' q' : Nat) (h : p + q' = p' + q) : x * 2 ^ p ≤ y * 2 ^ q ↔ x * 2 ^ p' ≤ y * 2 ^ q' := by
  have aux : ∀ c : Nat, 0 < c → ∀ a b : Nat, a ≤ b ↔ a * c ≤ b * c := fun c hc a b => ⟨fun h => Nat.mul_le_mul_right _ h, fun h => Nat.le_of_mul_le_mul_right h hc⟩
  rw [aux (2 ^ q') (Nat.two_pow_pos _) (x * 2 ^ p), aux (2 ^ q) (Nat.two_pow_pos _) (x * 2 ^ p')]
  simp only [Nat.mul_assoc, ← Nat.pow_add]
  rw [h, Nat.add_comm q q']

theorem divis (k a b Q : Nat) (hQ : 9007199254740992 ≤ Q) : (∃ c, M k * 2 ^ b = c * 2 ^ a) ∨ M k * 2 ^ b < Q * 2 ^ a := by
  unfold M
  generalize k / 4503599627370496 - 1 = e
  by_cases h : a ≤ e + b
  · left
    refine ⟨mg k * 2 ^ (e + b - a), ?_⟩
    rw [Nat.mul_assoc, ← Nat.pow_add, Nat.mul_assoc, ← Nat.pow_add]
    congr 2; omega
  · right
    rw [Nat.mul_assoc, ← Nat.pow_add]
    have h1 := mg_lt k
    have h2 : 2 ^ (e + b) ≤ 2 ^ a := Nat.pow_le_pow_right (by omega) (by omega)
    have h3 := Nat.two_pow_pos (e + b)
    calc mg k * 2 ^ (e + b) < Q * 2 ^ (e + b) := Nat.mul_lt_mul_of_pos_right (by omega) h3
      _ ≤ Q * 2 ^ a := Nat.mul_le_mul_left _ h2

/-- What is told by a last digit that only says whether anything is left. -/
theorem sticky (K a Q n rest : Nat) (hr : rest < n) (hK : (∃ c, K = c * 2 ^ a) ∨ K < Q * 2 ^ a) :
    (K * n ≤ (Q * n + rest) * 2 ^ a → K * 2 ≤ (2 * Q + (rest != 0).toNat) * 2 ^ a) ∧ ((Q * n + rest) * 2 ^ a ≤ K * n → (2 * Q + (rest != 0).toNat) * 2 ^ a ≤ K * 2) := by
  have hp := Nat.two_pow_pos a
  rcases hK with ⟨c, rfl⟩ | hlt
  · rw [Nat.mul_right_comm c _ n, Nat.mul_right_comm c _ 2]
    constructor
    · intro h
      have h1 := Nat.le_of_mul_le_mul_right h hp
      have h2 : c ≤ Q := by
        rcases Nat.lt_or_ge Q c with h' | h'
        · have h3 : (Q + 1) * n ≤ c * n := Nat.mul_le_mul_right _ h'
          rw [Nat.succ_mul] at h3; omega
        · exact h'
      exact Nat.mul_le_mul_right _ (by omega)
    · intro h
      have h1 := Nat.le_of_mul_le_mul_right h hp
      refine Nat.mul_le_mul_right _ ?_
      by_cases h0 : rest = 0
      · subst h0
        have : Q ≤ c := Nat.le_of_mul_le_mul_right (by omega : Q * n ≤ c * n) (by omega)
        simp; omega
      · have : Q < c := Nat.lt_of_mul_lt_mul_right (a := n) (by omega)
        have h2 : (rest != 0).toNat ≤ 1 := Bool.toNat_le _
        omega
  · constructor
    · intro _
      calc K * 2 ≤ Q * 2 ^ a * 2 := Nat.mul_le_mul_right _ (Nat.le_of_lt hlt)
        _ = (2 * Q) * 2 ^ a := by rw [Nat.mul_right_comm, Nat.mul_comm Q 2]
        _ ≤ _ := Nat.mul_le_mul_right _ (by omega)
    · intro h
      exfalso
      have h1 : K * n < Q * 2 ^ a * n := Nat.mul_lt_mul_of_pos_right hlt (by omega)
      rw [Nat.mul_right_comm] at h1
      have h2 : Q * n * 2 ^ a ≤ (Q * n + rest) * 2 ^ a := Nat.mul_le_mul_right _ (by omega)
      omega

theorem Rt_nonneg (N D v : Nat) : 0 ≤ Rt N D v ↔ v * D ≤ N := by unfold Rt; omega
theorem Rt_nonpos (N D v : Nat) : Rt N D v ≤ 0 ↔ N ≤ v * D := by unfold Rt; omega

theorem div_fin (s t : Bool) (r q : Nat) (hr : r < INF) (hq : q < INF) (hq0 : 0 < q) :
    ∃ z, double.div (W s r) (W t q) = some (W (s ^^ t) z) ∧ Faith (Rt (M r * U) (M q)) z := by
  unfold Format.div
  rw [read_fin s r hr, read_fin t q hq]
  have hn : mg q ≠ 0 := by
    intro h
    have := M_pos hq0
    unfold M at this; rw [h] at this; simp at this
  have hfr : double.fractionBits + 2 = 54 := rfl
  simp only [Datum.quotient, if_neg hn, Option.map_some, Format.write, hfr, Nat.shiftLeft_eq]
  generalize hmore : 54 + (mg q).log2 - (mg r).log2 = more
  obtain ⟨z, hz, hf⟩ := nearest_faith (s ^^ t) (2 * (mg r * 2 ^ more / mg q) + (mg r * 2 ^ more % mg q != 0).toNat) (pl r - pl q - more - 1)
  refine ⟨z, by rw [hz, word_W], ?_⟩
  generalize hQ : mg r * 2 ^ more / mg q = Q at *
  generalize hrest : mg r * 2 ^ more % mg q = rest at *
  have hsplit : mg r * 2 ^ more = Q * mg q + rest := by
    rw [← hQ, ← hrest, Nat.mul_comm (_ / _)]; exact (Nat.div_add_mod _ _).symm
  have hrl : rest < mg q := by rw [← hrest]; exact Nat.mod_lt _ (by omega)
  by_cases hm : mg r = 0
  · have hM : M r = 0 := by unfold M; rw [hm]; simp
    have hQ0 : Q = 0 := by rw [← hQ, hm]; simp
    have hr0 : rest = 0 := by rw [← hrest, hm]; simp
    rw [hQ0, hr0] at hf
    rw [hM]
    refine hf.congr fun k _ => ?_
    rw [Rt_nonneg, Rt_nonneg, Rt_nonpos, Rt_nonpos]
    simp only [Nat.zero_mul, Nat.mul_zero, bne_self_eq_false, Bool.toNat_false, Nat.zero_add, Nat.zero_le, implies_true, and_true]
    intro h
    have h1 := M_pos hq0
    have : M k = 0 := by
      rcases Nat.eq_zero_or_pos (M k) with h' | h'
      · exact h'
      · have := Nat.mul_pos h' h1; omega
    rw [this]; simp
  have hQ53 : 9007199254740992 ≤ Q := by
    rw [← hQ]
    apply (Nat.le_div_iff_mul_le (by omega)).2
    have h1 : mg q < 2 ^ ((mg q).log2 + 1) := Nat.lt_log2_self
    have h2 : 2 ^ (mg r).log2 ≤ mg r := Nat.log2_self_le hm
    calc 9007199254740992 * mg q ≤ 9007199254740992 * 2 ^ ((mg q).log2 + 1) := Nat.mul_le_mul_left _ (Nat.le_of_lt h1)
      _ = 2 ^ ((mg q).log2 + 54) := by
        rw [show (mg q).log2 + 54 = ((mg q).log2 + 1) + 53 by omega, Nat.pow_add _ _ 53]; omega
      _ ≤ 2 ^ ((mg r).log2 + more) := Nat.pow_le_pow_right (by omega) (by omega)
      _ = 2 ^ (mg r).log2 * 2 ^ more := Nat.pow_add ..
      _ ≤ mg r * 2 ^ more := Nat.mul_le_mul_right _ h2
  have hr' := pl_ge r
  have hq' := pl_ge q
  have hE := EE_eq
  generalize hg : pl r - pl q - more + 1074 = g
  refine hf.congr fun k _ => ?_
  rw [Rt_nonneg, Rt_nonneg, Rt_nonpos, Rt_nonpos]
  obtain ⟨st1, st2⟩ := sticky (M k * 2 ^ (-g).toNat) g.toNat Q (mg q) rest hrl (divis k _ _ Q hQ53)
  rw [← hsplit] at st1 st2
  rw [M_pl r, M_pl q]; unfold U
  generalize hX : 2 * Q + (rest != 0).toNat = X at *
  have c1 : M k * (mg q * 2 ^ (pl q + 1074).toNat) ≤ mg r * 2 ^ (pl r + 1074).toNat * 2 ^ EE ↔ M k * 2 ^ (-g).toNat * mg q ≤ mg r * 2 ^ more * 2 ^ g.toNat := by
    rw [← Nat.mul_assoc, Nat.mul_right_comm (M k) (2 ^ _) (mg q), Nat.mul_assoc (mg r), ← Nat.pow_add, Nat.mul_assoc (mg r), ← Nat.pow_add]
    exact pow_cmp _ _ _ _ _ _ (by omega)
  have c2 : mg r * 2 ^ (pl r + 1074).toNat * 2 ^ EE ≤ M k * (mg q * 2 ^ (pl q + 1074).toNat) ↔ mg r * 2 ^ more * 2 ^ g.toNat ≤ M k * 2 ^ (-g).toNat * mg q := by
    rw [← Nat.mul_assoc, Nat.mul_right_comm (M k) (2 ^ _) (mg q), Nat.mul_assoc (mg r), ← Nat.pow_add, Nat.mul_assoc (mg r), ← Nat.pow_add]
    exact pow_cmp _ _ _ _ _ _ (by omega)
  have two : ∀ x y : Nat, x * 2 ^ y * 2 = x * 2 ^ (y + 1) := fun x y => by rw [Nat.mul_assoc, Nat.pow_succ]
  have c3 : M k * 2 ^ (-(pl r - pl q - more - 1 + 1074)).toNat ≤ X * 2 ^ (pl r - pl q - more - 1 + 1074).toNat ↔ M k * 2 ^ (-g).toNat * 2 ≤ X * 2 ^ g.toNat := by
    rw [two]
    exact pow_cmp _ _ _ _ _ _ (by omega)
  have c4 : X * 2 ^ (pl r - pl q - more - 1 + 1074).toNat ≤ M k * 2 ^ (-(pl r - pl q - more - 1 + 1074)).toNat ↔ X * 2 ^ g.toNat ≤ M k * 2 ^ (-g).toNat * 2 := by
    rw [two]
    exact pow_cmp _ _ _ _ _ _ (by omega)
  rw [c1, c2, c3, c4]
  exact ⟨st1, st2⟩

theorem rootFrom_spec (n : Nat) : ∀ todo root : Nat, root * root ≤ n → n < (root + 2 ^ todo) * (root + 2 ^ todo) →
    Datum.rootFrom n todo root * Datum.rootFrom n todo root ≤ n ∧ n < (Datum.rootFrom n todo root + 1) * (Datum.rootFrom n todo root + 1) := by
  intro todo
  induction todo with
  | zero => intro root h1 h2; exact ⟨h1, h2⟩
  | succ k ih =>
    intro root h1 h2
    unfold Datum.rootFrom
    dsimp only
    rw [Nat.one_shiftLeft]
    by_cases h : (root + 2 ^ k) * (root + 2 ^ k) ≤ n
    · rw [if_pos h]
      refine ih _ h ?_
      rw [show root + 2 ^ k + 2 ^ k = root + 2 ^ (k + 1) by rw [Nat.pow_succ]; omega]
      exact h2
    · rw [if_neg h]
      exact ih _ h1 (by omega)

def Sq (N : Nat) : Nat → Int := fun v => (N : Int) - (v * v : Nat)
theorem Sq_nonneg (N v : Nat) : 0 ≤ Sq N v ↔ v * v ≤ N := by unfold Sq; omega
theorem Sq_nonpos (N v : Nat) : Sq N v ≤ 0 ↔ N ≤ v * v := by unfold Sq; omega

theorem sq_le {a b : Nat} : a * a ≤ b * b ↔ a ≤ b := Nat.mul_self_le_mul_self_iff
theorem sq_lt {a b : Nat} : a * a < b * b ↔ a < b := Nat.mul_self_lt_mul_self_iff

theorem stickySq (K a w n : Nat) (h1 : w * w ≤ n) (h2 : n < (w + 1) * (w + 1)) (hK : (∃ c, K = c * 2 ^ a) ∨ K < w * 2 ^ a) :
    (K * K ≤ n * (2 ^ a * 2 ^ a) → K * 2 ≤ (2 * w + (w * w != n).toNat) * 2 ^ a) ∧ (n * (2 ^ a * 2 ^ a) ≤ K * K → (2 * w + (w * w != n).toNat) * 2 ^ a ≤ K * 2) := by
  have hp := Nat.two_pow_pos a
  generalize 2 ^ a = A at *
  have hA : 0 < A * A := Nat.mul_pos hp hp
  rcases hK with ⟨c, rfl⟩ | hlt
  · rw [Nat.mul_mul_mul_comm, Nat.mul_right_comm c _ 2]
    constructor
    · intro h
      have h3 := Nat.le_of_mul_le_mul_right h hA
      have h4 : c < w + 1 := sq_lt.1 (by omega)
      exact Nat.mul_le_mul_right _ (by omega)
    · intro h
      have h3 := Nat.le_of_mul_le_mul_right h hA
      refine Nat.mul_le_mul_right _ ?_
      by_cases h0 : w * w = n
      · have : w ≤ c := sq_le.1 (by omega)
        simp [h0]; omega
      · have : w < c := sq_lt.1 (by omega)
        have h2 : (w * w != n).toNat ≤ 1 := Bool.toNat_le _
        omega
  · constructor
    · intro _
      calc K * 2 ≤ w * A * 2 := Nat.mul_le_mul_right _ (Nat.le_of_lt hlt)
        _ = (2 * w) * A := by rw [Nat.mul_right_comm, Nat.mul_comm w 2]
        _ ≤ _ := Nat.mul_le_mul_right _ (by omega)
    · intro h
      exfalso
      have h3 : K * K < (w * A) * (w * A) := sq_lt.2 hlt
      rw [Nat.mul_mul_mul_comm] at h3
      have h4 : w * w * (A * A) ≤ n * (A * A) := Nat.mul_le_mul_right _ h1
      omega

theorem sqrt_fin (r : Nat) (hr : r < INF) (hr0 : 0 < r) :
    ∃ z, double.sqrt (W false r) = some (W false z) ∧ Faith (Sq (M r * U)) z := by
  unfold Format.sqrt
  rw [read_fin false r hr]
  have hm : mg r ≠ 0 := by
    intro h
    have := M_pos hr0
    unfold M at this; rw [h] at this; simp at this
  have hfr : double.fractionBits + 2 = 54 := rfl
  simp only [Datum.root, if_neg hm, Bool.false_eq_true, if_false, Option.map_some, Format.write, hfr, Nat.shiftLeft_eq]
  generalize hmore : 2 * 54 - (mg r).log2 + ((pl r - ((2 * 54 - (mg r).log2 : Nat) : Int)) % 2).toNat = more
  generalize hn : mg r * 2 ^ more = n
  generalize hw : Datum.rootFrom n (n.log2 / 2 + 1) 0 = w
  obtain ⟨z, hz, hf⟩ := nearest_faith false (2 * w + (w * w != n).toNat) ((pl r - more) / 2 - 1)
  refine ⟨z, by rw [hz, word_W], ?_⟩
  have hr' := pl_ge r
  have hE := EE_eq
  have hnlt : n < 2 ^ (n.log2 + 1) := Nat.lt_log2_self
  have hspec := rootFrom_spec n (n.log2 / 2 + 1) 0 (by omega) (by
    rw [Nat.zero_add, ← Nat.pow_add]
    exact Nat.lt_of_lt_of_le hnlt (Nat.pow_le_pow_right (by omega) (by omega)))
  rw [hw] at hspec
  obtain ⟨w1, w2⟩ := hspec
  have hbig : 2 ^ 108 ≤ n := by
    have h2 : 2 ^ (mg r).log2 ≤ mg r := Nat.log2_self_le hm
    rw [← hn]
    calc 2 ^ 108 ≤ 2 ^ ((mg r).log2 + more) := Nat.pow_le_pow_right (by omega) (by omega)
      _ = 2 ^ (mg r).log2 * 2 ^ more := Nat.pow_add ..
      _ ≤ mg r * 2 ^ more := Nat.mul_le_mul_right _ h2
  have hQ53 : 9007199254740992 ≤ w := by
    have : 18014398509481984 * 18014398509481984 < (w + 1) * (w + 1) := Nat.lt_of_le_of_lt hbig w2
    have := sq_lt.1 this
    omega
  have heven : ∃ h : Int, pl r - more = 2 * h := ⟨(pl r - more) / 2, by omega⟩
  obtain ⟨h, hh⟩ := heven
  have hh2 : (pl r - more) / 2 = h := by omega
  rw [hh2] at hf
  refine hf.congr fun k _ => ?_
  rw [Rt_nonneg, Rt_nonpos, Sq_nonneg, Sq_nonpos]
  obtain ⟨st1, st2⟩ := stickySq (M k * 2 ^ (-(h + 1074)).toNat) (h + 1074).toNat w n w1 w2 (divis k _ _ w hQ53)
  rw [← hn] at st1 st2
  rw [M_pl r]; unfold U
  generalize hX : 2 * w + (w * w != mg r * 2 ^ more).toNat = X at *
  rw [hn] at hX
  rw [hX]
  have c1 : M k * M k ≤ mg r * 2 ^ (pl r + 1074).toNat * 2 ^ EE ↔ M k * 2 ^ (-(h + 1074)).toNat * (M k * 2 ^ (-(h + 1074)).toNat) ≤ mg r * 2 ^ more * (2 ^ (h + 1074).toNat * 2 ^ (h + 1074).toNat) := by
    rw [Nat.mul_mul_mul_comm (M k), ← Nat.pow_add, ← Nat.pow_add, Nat.mul_assoc (mg r), ← Nat.pow_add, Nat.mul_assoc (mg r), ← Nat.pow_add]
    have := pow_cmp (M k * M k) (mg r) 0 ((pl r + 1074).toNat + EE) ((-(h + 1074)).toNat + (-(h + 1074)).toNat) (more + ((h + 1074).toNat + (h + 1074).toNat)) (by omega)
    simpa using this
  have c2 : mg r * 2 ^ (pl r + 1074).toNat * 2 ^ EE ≤ M k * M k ↔ mg r * 2 ^ more * (2 ^ (h + 1074).toNat * 2 ^ (h + 1074).toNat) ≤ M k * 2 ^ (-(h + 1074)).toNat * (M k * 2 ^ (-(h + 1074)).toNat) := by
    rw [Nat.mul_mul_mul_comm (M k), ← Nat.pow_add, ← Nat.pow_add, Nat.mul_assoc (mg r), ← Nat.pow_add, Nat.mul_assoc (mg r), ← Nat.pow_add]
    have := pow_cmp (mg r) (M k * M k) ((pl r + 1074).toNat + EE) 0 (more + ((h + 1074).toNat + (h + 1074).toNat)) ((-(h + 1074)).toNat + (-(h + 1074)).toNat) (by omega)
    simpa using this
  have two : ∀ x y : Nat, x * 2 ^ y * 2 = x * 2 ^ (y + 1) := fun x y => by rw [Nat.mul_assoc, Nat.pow_succ]
  have c3 : M k * 2 ^ (-(h - 1 + 1074)).toNat ≤ X * 2 ^ (h - 1 + 1074).toNat ↔ M k * 2 ^ (-(h + 1074)).toNat * 2 ≤ X * 2 ^ (h + 1074).toNat := by
    rw [two]
    exact pow_cmp _ _ _ _ _ _ (by omega)
  have c4 : X * 2 ^ (h - 1 + 1074).toNat ≤ M k * 2 ^ (-(h - 1 + 1074)).toNat ↔ X * 2 ^ (h + 1074).toNat ≤ M k * 2 ^ (-(h + 1074)).toNat * 2 := by
    rw [two]
    exact pow_cmp _ _ _ _ _ _ (by omega)
  rw [c1, c2, c3, c4]
  exact ⟨st1, st2⟩

end Go.Proofs.Ytiohmafmkdbljaa.Fl
