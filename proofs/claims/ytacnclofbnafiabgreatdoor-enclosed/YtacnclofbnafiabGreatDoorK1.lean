import Derived.Test.YtacnclofbnafiabGreatDoorDA
import Derived.Test.YtacnclofbnafiabGreatDoorRA
namespace Go.Proofs.YtacnclofbnafiabGreatDoor
open Go.RowKit Fl

theorem V_allK (s t : Bool) (r q : Nat) (hr : r ≤ INF) (hq : q ≤ INF) : Ieee.double.order (W s r) (W t q) = some (compare (V s r) (V t q)) := by
  have hI := M_pos INF_pos
  rcases Nat.lt_or_eq_of_le hr with h1 | h1
  · rcases Nat.lt_or_eq_of_le hq with h2 | h2
    · exact order_fin s t r q h1 h2
    · subst h2
      have h := M_lt h1
      rw [order_fin_inf t s r h1]
      cases t
      · rw [Int.compare_eq_lt.2]; · rfl
        unfold V; cases s <;> simp <;> omega
      · rw [Int.compare_eq_gt.2]; · rfl
        unfold V; cases s <;> simp <;> omega
  · subst h1
    rcases Nat.lt_or_eq_of_le hq with h2 | h2
    · have h := M_lt h2
      rw [order_inf_fin s t q h2]
      cases s
      · rw [Int.compare_eq_gt.2]; · rfl
        unfold V; cases t <;> simp <;> omega
      · rw [Int.compare_eq_lt.2]; · rfl
        unfold V; cases t <;> simp <;> omega
    · subst h2
      rw [order_inf_inf]
      cases s <;> cases t
      · simp
      · rw [Int.compare_eq_gt.2 (by unfold V; simp; omega)]; rfl
      · rw [Int.compare_eq_lt.2 (by unfold V; simp; omega)]; rfl
      · simp
/-- x is no NaN, and has the place k among the floats (both noughts: 0; the infinities: INF and -INF). -/
def Key (x : Nat) (k : Int) : Prop := ∃ s r, x = W s r ∧ r ≤ INF ∧ ixI s r = k
/-- The float at a place (never -0). -/
def B (k : Int) : Nat := pw (decide (k < 0)) k.natAbs
/-- What it is worth, in units of 2^-1074. -/
def Vk (k : Int) : Int := V (decide (k < 0)) k.natAbs
theorem ix_B (k : Int) : ixI (decide (k < 0)) k.natAbs = k := by
  unfold ixI
  by_cases h : k < 0
  · rw [decide_eq_true h]; simp; omega
  · rw [decide_eq_false h]; simp; omega
theorem Vk_ix (s : Bool) (r : Nat) : Vk (ixI s r) = V s r := ix_eq (ix_B _)
theorem B_ix (s : Bool) (r : Nat) : B (ixI s r) = pw s r := pw_ix (ix_B _)
theorem Vk_lt {a b : Int} : Vk a < Vk b ↔ a < b := by
  unfold Vk; rw [← ix_val, ix_B, ix_B]
theorem Vk_le {a b : Int} : Vk a ≤ Vk b ↔ a ≤ b := by
  have := @Vk_lt b a
  omega
theorem Vk_zero : Vk 0 = 0 := V_zero _
theorem Vk_neg (k : Int) : Vk (-k) = - Vk k := by
  have h : ixI (!decide (k < 0)) k.natAbs = -k := by rw [ix_not, ix_B]
  have e : -Vk k = V (!decide (k < 0)) k.natAbs := by rw [V_not]; rfl
  rw [e, ← Vk_ix, h]
theorem Key.bd {x : Nat} {k : Int} (h : Key x k) : -(INF : Int) ≤ k ∧ k ≤ INF := by
  obtain ⟨s, r, rfl, hr, rfl⟩ := h
  unfold ixI; cases s <;> simp <;> omega
theorem Key.lt {x : Nat} {k : Int} (h : Key x k) : x < 18446744073709551616 := by
  obtain ⟨s, r, rfl, hr, rfl⟩ := h
  exact W_lt s r (fin_lt hr)
theorem Key.of_B {k : Int} (h1 : -(INF : Int) ≤ k) (h2 : k ≤ INF) : Key (B k) k := by
  by_cases h : k = 0
  · subst h; exact ⟨false, 0, by rw [W_zero]; rfl, by omega, rfl⟩
  · refine ⟨decide (k < 0), k.natAbs, ?_, by omega, ix_B k⟩
    unfold B; rw [pw_W _ _ (by omega)]
theorem Key.self {x : Nat} {k : Int} (h : Key x k) : Ieee.double.order x x = some .eq := by
  obtain ⟨s, r, rfl, hr, rfl⟩ := h
  exact order_self s r hr
theorem cmp_ix {s t : Bool} {r q : Nat} : compare (V s r) (V t q) = compare (ixI s r) (ixI t q) := by
  rcases Int.lt_trichotomy (ixI s r) (ixI t q) with h | h | h
  · rw [Int.compare_eq_lt.2 h, Int.compare_eq_lt.2 (ix_val.1 h)]
  · rw [ix_eq h, h]; simp
  · rw [Int.compare_eq_gt.2 h, Int.compare_eq_gt.2 (ix_val.1 h)]
theorem Key.order {x y : Nat} {k l : Int} (hx : Key x k) (hy : Key y l) : Ieee.double.order x y = some (compare k l) := by
  obtain ⟨s, r, rfl, hr, rfl⟩ := hx
  obtain ⟨t, q, rfl, hq, rfl⟩ := hy
  rw [V_allK s t r q hr hq, cmp_ix]
theorem Key.olt {x y : Nat} {k l : Int} (hx : Key x k) (hy : Key y l) (h : k < l) : Ieee.double.order x y = some .lt := by
  rw [hx.order hy, Int.compare_eq_lt.2 h]
theorem Key.ogt {x y : Nat} {k l : Int} (hx : Key x k) (hy : Key y l) (h : l < k) : Ieee.double.order x y = some .gt := by
  rw [hx.order hy, Int.compare_eq_gt.2 h]
theorem Key.oeq {x y : Nat} {k l : Int} (hx : Key x k) (hy : Key y l) (h : k = l) : Ieee.double.order x y = some .eq := by
  rw [hx.order hy, h]; simp
theorem Key.zero : Key 0 0 := ⟨false, 0, by rw [W_zero], by omega, rfl⟩
theorem Key.inf : Key (W false INF) INF := ⟨false, INF, rfl, Nat.le_refl _, by simp [ixI]⟩
theorem Key.max : Key 9218868437227405311 (INF - 1) := by
  have := MAX_eq
  refine ⟨false, 9218868437227405311, by rw [W_false], by omega, ?_⟩
  simp only [ixI, Bool.false_eq_true, if_false]; omega
theorem B_inf : B INF = W false INF := by
  have h : ixI false INF = (INF : Int) := by simp [ixI]
  rw [← h, B_ix, pw_W _ _ (by have := INF_pos; omega)]
theorem B_ninf : B (-INF) = W true INF := by
  have h : ixI true INF = -(INF : Int) := by simp [ixI]
  rw [← h, B_ix, pw_W _ _ (by have := INF_pos; omega)]
def NaNw (x : Nat) : Prop := ∃ s r, x = W s r ∧ INF < r ∧ r < 9223372036854775808
theorem NaNw.l {x : Nat} (h : NaNw x) (y : Nat) : Ieee.double.order x y = none := by
  obtain ⟨s, r, rfl, h1, h2⟩ := h; exact order_nan_l s r y h1 h2
theorem NaNw.r {x : Nat} (h : NaNw x) (y : Nat) : Ieee.double.order y x = none := by
  obtain ⟨s, r, rfl, h1, h2⟩ := h; exact order_nan_r s r y h1 h2
theorem NaNw.lt {x : Nat} (h : NaNw x) : x < 18446744073709551616 := by
  obtain ⟨s, r, rfl, h1, h2⟩ := h; exact W_lt s r h2
theorem NaNw.no {x : Nat} {k : Int} (h : NaNw x) (h' : Key x k) : False := by
  have h1 := h.l x; rw [h'.self] at h1; cases h1
theorem word_cases (x : Nat) (h : x < 18446744073709551616) : (∃ k, Key x k) ∨ NaNw x := by
  obtain ⟨s, r, rfl, hr⟩ := W_cases x h
  by_cases h1 : r ≤ INF
  · exact .inl ⟨_, s, r, rfl, h1, rfl⟩
  · exact .inr ⟨s, r, rfl, by omega, hr⟩
theorem Key.unique {x : Nat} {k l : Int} (h : Key x k) (h' : Key x l) : k = l := by
  have h1 := h.order h'
  rw [h.self] at h1
  have h2 : compare k l = .eq := (Option.some.inj h1).symm
  rcases Int.lt_trichotomy k l with h3 | h3 | h3
  · rw [Int.compare_eq_lt.2 h3] at h2; cases h2
  · exact h3
  · rw [Int.compare_eq_gt.2 h3] at h2; cases h2
theorem Key.neg {x : Nat} {k : Int} (h : Key x k) : ∃ x', Op.unary .neg (.float .f64 x) = pure (.float .f64 x') ∧ Key x' (-k) := by
  obtain ⟨s, r, rfl, hr, rfl⟩ := h
  exact ⟨_, unary_negF s r (fin_lt hr), !s, r, rfl, hr, ix_not s r⟩
theorem Key.minus {x : Nat} {k : Int} (h : Key x k) : Ieee.double.sub 0 x = some (B (-k)) := by
  obtain ⟨s, r, rfl, hr, rfl⟩ := h
  rw [← ix_not, B_ix]
  rcases Nat.lt_or_eq_of_le hr with h1 | h1
  · obtain ⟨sg, z, g1, g2, g3, g4⟩ := sub_fin false s 0 r INF_pos h1
    rw [W_zero] at g1
    rw [V_zero] at g2 g3 g4
    have e : (0 : Int) - V s r = V (!s) r := by rw [V_not]; omega
    rw [e] at g2 g3 g4
    have hl : z = r := g2.exact hr (by unfold Rt; rw [V_natAbs]; simp)
    subst hl
    rw [g1]
    unfold pw
    by_cases h0 : z = 0
    · subst h0
      rw [g4 (V_zero _)]; simp [W_zero]
    · rw [if_neg h0]
      have : sg = !s := by
        cases s
        · exact g3.1 (V_neg (by omega))
        · exact g3.2 (V_pos (by omega))
      rw [this]
  · subst h1
    have := sub_inf_r s false 0 INF_pos
    rw [W_zero] at this
    rw [this, pw_W _ _ (by have := INF_pos; omega)]
-- DOWN and UP by places
structure DnK (E : Int → Int) (D : Int) : Prop where
  lo : -(INF : Int) ≤ D
  hi : D < INF
  ok : ∀ j, -(INF : Int) < j → j < INF → (0 ≤ E (Vk j) ↔ j ≤ D)
structure UpK (E : Int → Int) (P : Int) : Prop where
  lo : -(INF : Int) < P
  hi : P ≤ INF
  ok : ∀ j, -(INF : Int) < j → j < INF → (E (Vk j) ≤ 0 ↔ P ≤ j)
theorem Vk_abv (s : Bool) (z : Nat) : V (abv s z).1 (abv s z).2 = Vk (ixI s z + 1) := by rw [← ix_abv, Vk_ix]
theorem Vk_blw (s : Bool) (z : Nat) : V (blw s z).1 (blw s z).2 = Vk (ixI s z - 1) := by rw [← ix_blw, Vk_ix]
theorem AntiI.le {E : Int → Int} (h : AntiI E) {a b : Int} (hab : a ≤ b) (hb : 0 ≤ E b) : 0 ≤ E a := by
  rcases Int.lt_or_eq_of_le hab with h1 | h1
  · exact Int.le_of_lt (h a b h1 hb)
  · rw [h1]; exact hb
theorem AntiI.le' {E : Int → Int} (h : AntiI E) {a b : Int} (hab : a ≤ b) (ha : E a ≤ 0) : E b ≤ 0 := by
  rcases Int.lt_or_eq_of_le hab with h1 | h1
  · exact Int.le_of_lt (h.neg h1 ha)
  · rw [← h1]; exact ha
theorem DownOk.key {E : Int → Int} (hE : AntiI E) {x : Nat} (h : DownOk E x) : ∃ D, x = B D ∧ DnK E D := by
  rcases h with ⟨rfl, mx, hm, h1⟩ | ⟨s, z, rfl, hz, h1, h2⟩
  · refine ⟨-INF, B_ninf.symm, Int.le_refl _, by have := INF_pos; omega, fun j hj1 hj2 => ⟨fun h => ?_, fun h => by omega⟩⟩
    exfalso
    have e : V true mx = Vk (1 - INF) := by rw [← Vk_ix]; congr 1; simp [ixI]; omega
    rw [e] at h1
    have := hE.le (Vk_le.2 (show 1 - (INF : Int) ≤ j by omega)) h
    omega
  · refine ⟨ixI s z, (B_ix s z).symm, by unfold ixI; cases s <;> simp <;> omega, by unfold ixI; cases s <;> simp <;> omega, fun j hj1 hj2 => ⟨fun h => ?_, fun h => ?_⟩⟩
    · rcases h2 with ⟨rfl, h3⟩ | h3
      · simp only [ixI, Bool.false_eq_true, if_false]; omega
      · rw [Vk_abv] at h3
        rcases Int.lt_or_le (ixI s z) j with g | g
        · have := hE.le (Vk_le.2 (show ixI s z + 1 ≤ j by omega)) h
          omega
        · exact g
    · rw [← Vk_ix] at h1
      exact hE.le (Vk_le.2 h) h1
theorem UpOk.key {E : Int → Int} (hE : AntiI E) {x : Nat} (h : UpOk E x) : ∃ P, x = B P ∧ UpK E P := by
  rcases h with ⟨rfl, mx, hm, h1⟩ | ⟨s, z, rfl, hz, h1, h2⟩
  · refine ⟨INF, B_inf.symm, by have := INF_pos; omega, Int.le_refl _, fun j hj1 hj2 => ⟨fun h => ?_, fun h => by omega⟩⟩
    exfalso
    have e : V false mx = Vk (INF - 1) := by rw [← Vk_ix]; congr 1; simp [ixI]; omega
    rw [e] at h1
    have := hE.le' (Vk_le.2 (show j ≤ (INF : Int) - 1 by omega)) h
    omega
  · refine ⟨ixI s z, (B_ix s z).symm, by unfold ixI; cases s <;> simp <;> omega, by unfold ixI; cases s <;> simp <;> omega, fun j hj1 hj2 => ⟨fun h => ?_, fun h => ?_⟩⟩
    · rcases h2 with ⟨rfl, h3⟩ | h3
      · simp only [ixI, if_true]; omega
      · rw [Vk_blw] at h3
        rcases Int.lt_or_le j (ixI s z) with g | g
        · have := hE.le' (Vk_le.2 (show j ≤ ixI s z - 1 by omega)) h
          omega
        · exact g
    · rw [← Vk_ix] at h1
      exact hE.le' (Vk_le.2 h) h1
theorem DnK.mono {E E' : Int → Int} {D D' : Int} (h : DnK E D) (h' : DnK E' D') (hE : ∀ v, 0 ≤ E v → 0 ≤ E' v) : D ≤ D' := by
  rcases Int.lt_or_le (-(INF : Int)) D with g | g
  · exact (h'.ok D g h.hi).1 (hE _ ((h.ok D g h.hi).2 (Int.le_refl _)))
  · have := h'.lo; omega
theorem UpK.mono {E E' : Int → Int} {P P' : Int} (h : UpK E P) (h' : UpK E' P') (hE : ∀ v, E' v ≤ 0 → E v ≤ 0) : P ≤ P' := by
  rcases Int.lt_or_le P' INF with g | g
  · exact (h.ok P' h'.lo g).1 (hE _ ((h'.ok P' h'.lo g).2 (Int.le_refl _)))
  · have := h.hi; omega
/-- Turned about. -/
theorem DnK.neg {E E' : Int → Int} {D : Int} (h : DnK E D) (hE : ∀ v, E' (-v) ≤ 0 ↔ 0 ≤ E v) : UpK E' (-D) := by
  refine ⟨by have := h.hi; omega, by have := h.lo; omega, fun j h1 h2 => ?_⟩
  have h3 := h.ok (-j) (by omega) (by omega)
  have h4 := hE (Vk (-j))
  rw [← Vk_neg, Int.neg_neg] at h4
  omega
theorem UpK.neg {E E' : Int → Int} {P : Int} (h : UpK E P) (hE : ∀ v, 0 ≤ E' (-v) ↔ E v ≤ 0) : DnK E' (-P) := by
  refine ⟨by have := h.hi; omega, by have := h.lo; omega, fun j h1 h2 => ?_⟩
  have h3 := h.ok (-j) (by omega) (by omega)
  have h4 := hE (Vk (-j))
  rw [← Vk_neg, Int.neg_neg] at h4
  omega
end Go.Proofs.YtacnclofbnafiabGreatDoor
