import Derived.Test.YtacnclofbnafiabGreatDoorM1
import Derived.Test.YtacnclofbnafiabGreatDoorKA
namespace Go.Proofs.YtacnclofbnafiabGreatDoor
open Go.RowKit Fl

-- UP by places: what is finite is not below what is exact
theorem Ops.aU_fin (F : Ops) {k l : Int} (hk : Pl k) (hl : Pl l) (h1 : -(INF : Int) < k) (h2 : -(INF : Int) < l) (h : F.aU k l < INF) :
    k < INF ∧ l < INF ∧ Vk k + Vk l ≤ Vk (F.aU k l) ∧ -(INF : Int) < F.aU k l := by
  have A := F.add hk hl
  have hI := INF_pos
  unfold Pl at hk hl
  by_cases hk' : k = INF
  · have := A.top (.inl ⟨hk', h2⟩); omega
  · by_cases hl' : l = INF
    · have := A.top (.inr ⟨h1, hl'⟩); omega
    · have u := (A.num h1 (by omega) h2 (by omega)).up
      have := (u.ok _ u.lo h).2 (Int.le_refl _)
      have := u.lo
      unfold Ep at *
      omega
theorem Ops.mU_fin (F : Ops) {k l : Int} (hk : Pl k) (hl : Pl l) (h1 : 0 < k) (h2 : 0 < l) :
    0 < F.mU k l ∧ (F.mU k l < INF → k < INF ∧ l < INF ∧ Vk k * Vk l ≤ Vk (F.mU k l) * (U : Int)) := by
  have A := F.mul hk hl
  have hI := INF_pos
  have hU := U_posI
  unfold Pl at hk hl
  by_cases hk' : k = INF
  · have := A.infp (.inl hk') (.inl ⟨h1, h2⟩); omega
  · by_cases hl' : l = INF
    · have := A.infp (.inr (.inr (.inl hl'))) (.inl ⟨h1, h2⟩); omega
    · have u := (A.num (by omega) (by omega) (by omega) (by omega)).up
      have vk : 0 < Vk k := by have := Vk_lt.2 h1; rw [Vk_zero] at this; exact this
      have vl : 0 < Vk l := by have := Vk_lt.2 h2; rw [Vk_zero] at this; exact this
      have pos := Int.mul_pos vk vl
      have ge : F.mU k l < INF → Vk k * Vk l ≤ Vk (F.mU k l) * (U : Int) := fun h => by
        have := (u.ok _ u.lo h).2 (Int.le_refl _)
        unfold Et at this
        omega
      refine ⟨?_, fun h => ⟨by omega, by omega, ge h⟩⟩
      rcases Int.lt_or_le 0 (F.mU k l) with g | g
      · exact g
      · exfalso
        have e := ge (by omega)
        have := Vk_le.2 g
        rw [Vk_zero] at this
        have := Int.mul_nonpos_of_nonpos_of_nonneg this (Int.le_of_lt hU)
        omega
theorem Ops.sU_fin (F : Ops) {k : Int} (hk : Pl k) (h0 : 0 ≤ k) :
    0 ≤ F.sU k ∧ (F.sU k < INF → k < INF ∧ Vk k * (U : Int) ≤ Vk (F.sU k) * Vk (F.sU k)) := by
  have A := F.sqrt hk h0
  have hI := INF_pos
  unfold Pl at hk
  by_cases hk' : k = INF
  · have := A.inf hk'; omega
  · have u := (A.num h0 (by omega)).up
    have ge : F.sU k < INF → Er (Vk k * (U : Int)) (Vk (F.sU k)) ≤ 0 := fun h => (u.ok _ u.lo h).2 (Int.le_refl _)
    have n0 : 0 ≤ F.sU k := by
      rcases Int.lt_or_le (F.sU k) 0 with g | g
      · exfalso
        have e := ge (by omega)
        have := Vk_lt.2 g
        rw [Vk_zero] at this
        unfold Er at e
        rw [if_pos this] at e
        omega
      · exact g
    refine ⟨n0, fun h => ⟨by omega, ?_⟩⟩
    have e := ge h
    have := Vk_le.2 n0
    rw [Vk_zero] at this
    unfold Er at e
    rw [if_neg (by omega)] at e
    omega
theorem Vk_nn {k : Int} (h : 0 ≤ k) : 0 ≤ Vk k := by have := Vk_le.2 h; rw [Vk_zero] at this; exact this

theorem sq_mono {a b : Int} (h0 : 0 ≤ a) (h : a ≤ b) : a * a ≤ b * b := Int.mul_le_mul h h h0 (by omega)
/-- The reckoning behind 'length'. -/
theorem len_core {A B S S' A1 B1 Q1 Q2 T R L U : Int} (hU : 0 < U) (hA : 0 ≤ A) (hB : 0 ≤ B) (hS' : 0 ≤ S') (hR : 0 ≤ R)
    (h1 : A * S ≤ A1 * U) (h2 : B * S ≤ B1 * U) (h3 : A1 * A1 ≤ Q1 * U) (h4 : B1 * B1 ≤ Q2 * U) (h5 : Q1 + Q2 ≤ T) (h6 : T * U ≤ R * R) (h7 : R * S' ≤ L * U) (h8 : S * S' = U * U) :
    A * A + B * B ≤ L * L := by
  have part : ∀ X X1 : Int, X * S ≤ X1 * U → X * U ≤ X1 * S' := fun X X1 h => by
    have e := Int.mul_le_mul_of_nonneg_right h hS'
    have e1 : X * S * S' = X * U * U := by rw [Int.mul_assoc, h8, ← Int.mul_assoc]
    have e2 : X1 * U * S' = X1 * S' * U := Int.mul_right_comm _ _ _
    rw [e1, e2] at e
    exact Int.le_of_mul_le_mul_right e hU
  have a1 := sq_mono (Int.mul_nonneg hA (Int.le_of_lt hU)) (part A A1 h1)
  have b1 := sq_mono (Int.mul_nonneg hB (Int.le_of_lt hU)) (part B B1 h2)
  have l1 := sq_mono (Int.mul_nonneg hR hS') h7
  have ss : 0 ≤ S' * S' := Int.mul_nonneg hS' hS'
  have c1 : (A1 * A1 + B1 * B1) * (S' * S') ≤ R * R * (S' * S') := by
    refine Int.mul_le_mul_of_nonneg_right ?_ ss
    have : (Q1 + Q2) * U ≤ T * U := Int.mul_le_mul_of_nonneg_right h5 (Int.le_of_lt hU)
    rw [Int.add_mul] at this
    omega
  have fin : (A * A + B * B) * (U * U) ≤ L * L * (U * U) := by
    have e1 : (A * A + B * B) * (U * U) = A * U * (A * U) + B * U * (B * U) := by grind
    have e2 : (A1 * A1 + B1 * B1) * (S' * S') = A1 * S' * (A1 * S') + B1 * S' * (B1 * S') := by grind
    have e3 : R * R * (S' * S') = R * S' * (R * S') := by grind
    have e4 : L * L * (U * U) = L * U * (L * U) := by grind
    rw [e1, e4]
    rw [e2, e3] at c1
    omega
  exact Int.le_of_mul_le_mul_right fin (Int.mul_pos hU hU)
/-- 'length', by places. -/
def Ops.len (F : Ops) (s s' a b : Int) : Int := F.mU (F.sU (F.aU (F.mU (F.mU a s) (F.mU a s)) (F.mU (F.mU b s) (F.mU b s)))) s'
theorem Ops.len_ge (F : Ops) {s s' a b : Int} (ha : Pl a) (hb : Pl b) (hs : Pl s) (hs' : Pl s') (a0 : 0 < a) (b0 : 0 < b) (s0 : 0 < s) (s0' : 0 < s') (e : Vk s * Vk s' = (U : Int) * U) :
    Pl (F.len s s' a b) ∧ 0 < F.len s s' a b ∧ (F.len s s' a b < INF → a < INF ∧ b < INF ∧ Vk a * Vk a + Vk b * Vk b ≤ Vk (F.len s s' a b) * Vk (F.len s s' a b)) := by
  have pa := (F.mul_pl ha hs).2
  have pb := (F.mul_pl hb hs).2
  obtain ⟨a1, fa⟩ := F.mU_fin ha hs a0 s0
  obtain ⟨b1, fb⟩ := F.mU_fin hb hs b0 s0
  have pa2 := (F.mul_pl pa pa).2
  have pb2 := (F.mul_pl pb pb).2
  obtain ⟨a2, fa2⟩ := F.mU_fin pa pa a1 a1
  obtain ⟨b2, fb2⟩ := F.mU_fin pb pb b1 b1
  have pt := (F.add_pl pa2 pb2).2
  have t0 : 0 < F.aU (F.mU (F.mU a s) (F.mU a s)) (F.mU (F.mU b s) (F.mU b s)) := by
    rcases Int.lt_or_le 0 (F.aU (F.mU (F.mU a s) (F.mU a s)) (F.mU (F.mU b s) (F.mU b s))) with g | g
    · exact g
    · exfalso
      have hI := INF_pos
      obtain ⟨_, _, q, _⟩ := F.aU_fin pa2 pb2 (by omega) (by omega) (by omega)
      have := Vk_le.2 g
      rw [Vk_zero] at this
      have := Vk_pos a2
      have := Vk_pos b2
      omega
  have pr := (F.sqrt_pl pt (by omega)).2
  obtain ⟨r0', fr⟩ := F.sU_fin pt (by omega)
  have r0 : 0 < F.sU (F.aU (F.mU (F.mU a s) (F.mU a s)) (F.mU (F.mU b s) (F.mU b s))) := by
    rcases Int.lt_or_eq_of_le r0' with g | g
    · exact g
    · exfalso
      have hI := INF_pos
      obtain ⟨_, q⟩ := fr (by omega)
      rw [← g, Vk_zero] at q
      have := Int.mul_pos (Vk_pos t0) U_posI
      omega
  obtain ⟨l0, fl⟩ := F.mU_fin pr hs' r0 s0'
  refine ⟨(F.mul_pl pr hs').2, l0, fun h => ?_⟩
  obtain ⟨u1, _, q7⟩ := fl h
  obtain ⟨u2, q6⟩ := fr u1
  obtain ⟨u3, u4, q5, _⟩ := F.aU_fin pa2 pb2 (by omega) (by omega) u2
  obtain ⟨u5, _, q3⟩ := fa2 u3
  obtain ⟨u6, _, q4⟩ := fb2 u4
  obtain ⟨u7, _, q1⟩ := fa u5
  obtain ⟨u8, _, q2⟩ := fb u6
  exact ⟨u7, u8, len_core U_posI (Int.le_of_lt (Vk_pos a0)) (Int.le_of_lt (Vk_pos b0)) (Int.le_of_lt (Vk_pos s0')) (Int.le_of_lt (Vk_pos r0)) q1 q2 q3 q4 q5 q6 q7 e⟩
end Go.Proofs.YtacnclofbnafiabGreatDoor

namespace Go.Proofs.YtacnclofbnafiabGreatDoor
open Go.RowKit Fl

/-- Go's own arithmetic by places: a neighbour of what is exact (E / D). -/
def Nr (E D : Int) (σ : Int) : Prop := ∀ j, -(INF : Int) ≤ j → j ≤ INF → (Vk j * D ≤ E → j ≤ σ) ∧ (E ≤ Vk j * D → σ ≤ j)
theorem Vk_of_nn {j : Int} (h : 0 ≤ j) : Vk j = (M j.natAbs : Int) := by
  unfold Vk V; rw [decide_eq_false (by omega)]; simp
theorem Vk_of_neg {j : Int} (h : j < 0) : Vk j = -(M j.natAbs : Int) := by
  unfold Vk V; rw [decide_eq_true h]; simp
theorem faith_place {E : Int} {D : Nat} {sg : Bool} {z : Nat} (hD : 0 < D) (hF : Faith (Rt E.natAbs D) z) (hs : SgnOk sg E) : Nr E D (ixI sg z) := by
  intro j j1 j2
  have hk : j.natAbs ≤ INF := by omega
  obtain ⟨f1, f2⟩ := hF.2 j.natAbs hk
  rw [Rt_nonneg] at f1
  rw [Rt_nonpos] at f2
  have DI : (0 : Int) < D := by omega
  have mD : ((M j.natAbs * D : Nat) : Int) = (M j.natAbs : Int) * D := Int.natCast_mul _ _
  cases sg
  · have hE : 0 ≤ E := by
      rcases Int.lt_or_le E 0 with g | g
      · exact absurd (hs.1 g) (by simp)
      · exact g
    rw [ix_false]
    rcases Int.lt_or_le j 0 with g | g
    · have p : 0 < M j.natAbs := M_pos (by omega)
      have v := Vk_of_neg g
      have : Vk j * D < 0 := by rw [v]; exact Int.mul_neg_of_neg_of_pos (by omega) DI
      exact ⟨fun _ => by omega, fun h => by omega⟩
    · rw [Vk_of_nn g, ← mD]
      exact ⟨fun h => by have := f1 (by omega); omega, fun h => by have := f2 (by omega); omega⟩
  · have hE : E ≤ 0 := by
      rcases Int.lt_or_le 0 E with g | g
      · exact absurd (hs.2 g) (by simp)
      · exact g
    rw [ix_true]
    rcases Int.lt_or_le 0 j with g | g
    · have := Int.mul_pos (Vk_pos g) DI
      exact ⟨fun h => by omega, fun h => by omega⟩
    · have v : Vk j = -(M j.natAbs : Int) := by
        rcases Int.lt_or_eq_of_le g with g | g
        · exact Vk_of_neg g
        · subst g; rw [Vk_zero]; simp [M_zero]
      rw [v, Int.neg_mul, ← mD]
      exact ⟨fun h => by have := f2 (by omega); omega, fun h => by have := f1 (by omega); omega⟩
theorem V_sgn' (s : Bool) (r : Nat) : SgnOk s (V s r) := by
  unfold SgnOk V
  cases s <;> simp <;> omega
theorem key_word {sg : Bool} {z : Nat} (h : z ≤ INF) : Key (W sg z) (ixI sg z) := ⟨sg, z, rfl, h, rfl⟩
theorem Key.fin {x : Nat} {k : Int} (h : Key x k) (h1 : -(INF : Int) < k) (h2 : k < INF) : ∃ s r, x = W s r ∧ r < INF ∧ ixI s r = k ∧ V s r = Vk k := by
  obtain ⟨s, r, rfl, hr, rfl⟩ := h
  refine ⟨s, r, rfl, ?_, rfl, (Vk_ix s r).symm⟩
  cases s
  · rw [ix_false] at h2; omega
  · rw [ix_true] at h1; omega
theorem own_add {x y : Nat} {k l : Int} (hx : Key x k) (hy : Key y l) (h1 : -(INF : Int) < k) (h2 : k < INF) (h3 : -(INF : Int) < l) (h4 : l < INF) :
    ∃ s σ, Ieee.double.add x y = some s ∧ Key s σ ∧ Nr (Vk k + Vk l) 1 σ := by
  obtain ⟨s, r, rfl, hr, _, e1⟩ := hx.fin h1 h2
  obtain ⟨t, q, rfl, hq, _, e2⟩ := hy.fin h3 h4
  obtain ⟨sg, z, a, f, g, _⟩ := add_fin s t r q hr hq
  rw [e1, e2] at f g
  exact ⟨_, _, a, key_word f.1, faith_place (D := 1) (by decide) f g⟩
theorem own_add_inf {x y : Nat} {k : Int} (hx : Key x 0) (hy : Key y k) (h : k = INF ∨ k = -(INF : Int)) : ∃ s, Ieee.double.add x y = some s ∧ Key s k ∧ ∃ s', Ieee.double.add y x = some s' ∧ Key s' k := by
  obtain ⟨s, r, rfl, hr, _, _⟩ := hx.fin (by have := INF_pos; omega) (by have := INF_pos; omega)
  obtain ⟨t, q, rfl, hq, e⟩ := hy
  have hI := INF_pos
  have q1 : q = INF := by
    cases t
    · rw [ix_false] at e; omega
    · rw [ix_true] at e; omega
  subst q1
  exact ⟨_, add_inf_r t s r hr, e ▸ key_word (Nat.le_refl _), _, add_inf_l t s r hr, e ▸ key_word (Nat.le_refl _)⟩
theorem two_lt : 4611686018427387904 < INF := by rw [INF_eq]; omega
theorem M_two : M 4611686018427387904 = 2 * U := by
  have e : M 4611686018427387904 = 2 * M 4607182418800017408 := by
    obtain ⟨n, hn⟩ : ∃ n : Nat, n = 1022 := ⟨_, rfl⟩
    have e1 : (n + 1) * 4503599627370496 + 4503599627370496 = 4611686018427387904 := by rw [hn]
    have e0 : n * 4503599627370496 + 4503599627370496 = 4607182418800017408 := by rw [hn]
    have h1 := M_pack (n + 1) 4503599627370496 (by decide) (.inl (by decide))
    have h0 := M_pack n 4503599627370496 (by decide) (.inl (by decide))
    rw [e1, Nat.pow_succ] at h1
    rw [e0] at h0
    rw [h1, h0]
    clear h0 h1 e0 e1 hn
    generalize 2 ^ n = q
    omega
  rw [e, M_oneW]
theorem own_half {x : Nat} {k : Int} (hx : Key x k) (h1 : -(INF : Int) < k) (h2 : k < INF) :
    ∃ s σ, Ieee.double.div x 4611686018427387904 = some s ∧ Key s σ ∧ Nr (Vk k) 2 σ := by
  obtain ⟨s, r, rfl, hr, _, e1⟩ := hx.fin h1 h2
  have W2 : W false 4611686018427387904 = 4611686018427387904 := W_false _
  obtain ⟨z, a, f⟩ := div_fin s false r 4611686018427387904 hr two_lt (by omega)
  rw [W2] at a
  have hU := U_pos
  have f' : Faith (Rt (V s r).natAbs 2) z := by
    refine f.congr fun k hk => ?_
    have v : (V s r).natAbs = M r := by unfold V; cases s <;> simp
    rw [Rt_nonneg, Rt_nonneg, Rt_nonpos, Rt_nonpos, v, M_two]
    have e : M k * (2 * U) = M k * 2 * U := by rw [Nat.mul_assoc]
    rw [e]
    exact ⟨fun h => Nat.mul_le_mul_right _ h, fun h => Nat.mul_le_mul_right _ h⟩
  have sg : SgnOk (s ^^ false) (V s r) := by rw [Bool.xor_false]; exact V_sgn' s r
  rw [e1] at f' sg
  exact ⟨_, _, a, key_word f'.1, by rw [Bool.xor_false]; rw [Bool.xor_false] at sg; exact faith_place (D := 2) (by decide) f' sg⟩
theorem own_half_inf {x : Nat} {k : Int} (hx : Key x k) (h : k = INF ∨ k = -(INF : Int)) : ∃ s, Ieee.double.div x 4611686018427387904 = some s ∧ Key s k := by
  obtain ⟨t, q, rfl, hq, e⟩ := hx
  have hI := INF_pos
  have q1 : q = INF := by
    cases t
    · rw [ix_false] at e; omega
    · rw [ix_true] at e; omega
  subst q1
  have W2 : W false 4611686018427387904 = 4611686018427387904 := W_false _
  have a := div_inf_l t false 4611686018427387904 two_lt
  rw [W2, Bool.xor_false] at a
  exact ⟨_, a, e ▸ key_word (Nat.le_refl _)⟩
end Go.Proofs.YtacnclofbnafiabGreatDoor
