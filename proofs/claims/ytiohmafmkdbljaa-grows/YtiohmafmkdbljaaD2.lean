import Derived.Test.YtiohmafmkdbljaaW5
import Derived.Test.YtiohmafmkdbljaaF12
namespace Go.Proofs.Ytiohmafmkdbljaa
open Fl

def abv (s : Bool) (z : Nat) : Bool × Nat := if z = 0 then (false, 1) else if s then (if z = 1 then (false, 0) else (true, z - 1)) else (false, z + 1)
def blw (s : Bool) (z : Nat) : Bool × Nat := (!(abv (!s) z).1, (abv (!s) z).2)
/-- The place among the floats. -/
def ixI (s : Bool) (z : Nat) : Int := if s then -(z : Int) else z
theorem ix_abv (s : Bool) (z : Nat) : ixI (abv s z).1 (abv s z).2 = ixI s z + 1 := by
  unfold abv
  split
  · rename_i h; subst h; cases s <;> simp [ixI]
  · cases s
    · simp [ixI]
    · simp only [if_true]
      split
      · rename_i h; subst h; simp [ixI]
      · simp [ixI]; omega
theorem ix_not (s : Bool) (z : Nat) : ixI (!s) z = - ixI s z := by cases s <;> simp [ixI]
theorem ix_blw (s : Bool) (z : Nat) : ixI (blw s z).1 (blw s z).2 = ixI s z - 1 := by
  unfold blw
  rw [ix_not, ix_abv, ix_not]; omega
theorem ix_val {s t : Bool} {z y : Nat} : ixI s z < ixI t y ↔ V s z < V t y := by
  have h1 : z < y → M z < M y := M_lt
  have h2 : y < z → M y < M z := M_lt
  have h3 : z = y → M z = M y := fun h => by rw [h]
  have h4 : 0 < z → 0 < M z := M_pos
  have h5 : 0 < y → 0 < M y := M_pos
  have h6 : z = 0 → M z = 0 := fun h => by rw [h, M_zero]
  have h7 : y = 0 → M y = 0 := fun h => by rw [h, M_zero]
  unfold ixI V
  cases s <;> cases t <;> simp <;> constructor <;> intro h
  all_goals
    rcases Nat.lt_trichotomy z y with e | e | e
    all_goals
      rcases Nat.eq_zero_or_pos z with e' | e'
      all_goals
        rcases Nat.eq_zero_or_pos y with e'' | e'' <;>
        first
          | omega
          | (have := h1 e; omega)
          | (have := h2 e; omega)
          | (have := h4 e'; omega)
          | (have := h5 e''; omega)
theorem ix_eq {s t : Bool} {z y : Nat} (h : ixI s z = ixI t y) : V s z = V t y := by
  rcases Int.lt_trichotomy (V s z) (V t y) with e | e | e
  · have := ix_val.2 e; omega
  · exact e
  · have := ix_val.2 e; omega
theorem pw_ix {s t : Bool} {z y : Nat} (h : ixI s z = ixI t y) : pw s z = pw t y := by
  unfold ixI at h
  unfold pw
  cases s <;> cases t <;> simp only [Bool.false_eq_true, if_false, if_true] at h
  · have : z = y := by omega
    rw [this]
  · have : z = 0 ∧ y = 0 := by omega
    rw [this.1, this.2]; rfl
  · have : z = 0 ∧ y = 0 := by omega
    rw [this.1, this.2]; rfl
  · have : z = y := by omega
    rw [this]
theorem abv_le (s : Bool) (z : Nat) (hz : z < INF) : (abv s z).2 ≤ INF ∧ ((abv s z).2 = INF → (abv s z).1 = false ∧ s = false ∧ z + 1 = INF) := by
  have := INF_pos
  have h2 : 1 < INF := by rw [INF_eq]; omega
  unfold abv
  split
  · exact ⟨by simp; omega, fun h => by simp at h; omega⟩
  · cases s
    · exact ⟨by simp; omega, fun h => ⟨rfl, rfl, h⟩⟩
    · simp only [if_true]
      split
      · exact ⟨by simp, fun h => by simp at h; omega⟩
      · exact ⟨by simp; omega, fun h => by simp at h; omega⟩
theorem blw_le (s : Bool) (z : Nat) (hz : z < INF) : (blw s z).2 ≤ INF ∧ ((blw s z).2 = INF → (blw s z).1 = true ∧ s = true ∧ z + 1 = INF) := by
  obtain ⟨h1, h2⟩ := abv_le (!s) z hz
  unfold blw
  refine ⟨h1, fun h => ?_⟩
  obtain ⟨g1, g2, g3⟩ := h2 h
  simp only [g1]
  exact ⟨rfl, by cases s <;> simp at g2 ⊢, g3⟩

/-- The sign of what is exact less v falls. -/
def AntiI (E : Int → Int) : Prop := ∀ a b, a < b → 0 ≤ E b → 0 < E a
theorem AntiI.neg {E : Int → Int} (h : AntiI E) {a b : Int} (hab : a < b) (ha : E a ≤ 0) : E b < 0 := by
  rcases Int.lt_or_le (E b) 0 with h' | h'
  · exact h'
  · have := h a b hab h'; omega
def DownOk (E : Int → Int) (x : Nat) : Prop :=
  (x = W true INF ∧ ∃ mx, mx + 1 = INF ∧ E (V true mx) < 0) ∨ ∃ s z, x = pw s z ∧ z < INF ∧ 0 ≤ E (V s z) ∧ ((s = false ∧ z + 1 = INF) ∨ E (V (abv s z).1 (abv s z).2) < 0)
def UpOk (E : Int → Int) (x : Nat) : Prop :=
  (x = W false INF ∧ ∃ mx, mx + 1 = INF ∧ 0 < E (V false mx)) ∨ ∃ s z, x = pw s z ∧ z < INF ∧ E (V s z) ≤ 0 ∧ ((s = true ∧ z + 1 = INF) ∨ 0 < E (V (blw s z).1 (blw s z).2))
theorem ix_min (s : Bool) (z mx : Nat) (hz : z < INF) (hm : mx + 1 = INF) : ixI true mx ≤ ixI s z ∧ ixI s z ≤ ixI false mx := by
  unfold ixI; cases s <;> simp <;> omega
theorem DownOk.unique {E : Int → Int} (hE : AntiI E) {x y : Nat} (hx : DownOk E x) (hy : DownOk E y) : x = y := by
  have low : ∀ {s z}, z < INF → 0 ≤ E (V s z) → ∀ mx, mx + 1 = INF → ¬ E (V true mx) < 0 := by
    intro s z hz h mx hm hn
    have h1 := (ix_min s z mx hz hm).1
    rcases Int.lt_or_le (ixI true mx) (ixI s z) with g | g
    · have := hE _ _ (ix_val.1 g) h; omega
    · have := ix_eq (show ixI true mx = ixI s z by omega); rw [this] at hn; omega
  have aux : ∀ {s z t y}, z < INF → y < INF → 0 ≤ E (V t y) → ((s = false ∧ z + 1 = INF) ∨ E (V (abv s z).1 (abv s z).2) < 0) → ¬ ixI s z < ixI t y := by
    intro s z t y hz hy h hn g
    rcases hn with ⟨rfl, h1⟩ | h1
    · have := (ix_min t y z hy h1).2; omega
    · rcases Int.lt_or_le (ixI s z + 1) (ixI t y) with g1 | g1
      · rw [← ix_abv] at g1
        have := hE _ _ (ix_val.1 g1) h; omega
      · have e : ixI (abv s z).1 (abv s z).2 = ixI t y := by rw [ix_abv]; omega
        rw [ix_eq e] at h1; omega
  rcases hx with ⟨rfl, m1, hm1, h1⟩ | ⟨s, z, rfl, h1, h2, h3⟩
  · rcases hy with ⟨rfl, _⟩ | ⟨t, y, rfl, g1, g2, g3⟩
    · rfl
    · exact absurd h1 (low g1 g2 m1 hm1)
  · rcases hy with ⟨rfl, m1, hm1, g1⟩ | ⟨t, y, rfl, g1, g2, g3⟩
    · exact absurd g1 (low h1 h2 m1 hm1)
    · refine pw_ix ?_
      have a1 := aux h1 g1 g2 h3
      have a2 := aux g1 h1 h2 g3
      omega
theorem UpOk.unique {E : Int → Int} (hE : AntiI E) {x y : Nat} (hx : UpOk E x) (hy : UpOk E y) : x = y := by
  have high : ∀ {s z}, z < INF → E (V s z) ≤ 0 → ∀ mx, mx + 1 = INF → ¬ 0 < E (V false mx) := by
    intro s z hz h mx hm hn
    have h1 := (ix_min s z mx hz hm).2
    rcases Int.lt_or_le (ixI s z) (ixI false mx) with g | g
    · have := hE _ _ (ix_val.1 g) (Int.le_of_lt hn); omega
    · have := ix_eq (show ixI false mx = ixI s z by omega); rw [this] at hn; omega
  have aux : ∀ {s z t y}, z < INF → y < INF → E (V t y) ≤ 0 → ((s = true ∧ z + 1 = INF) ∨ 0 < E (V (blw s z).1 (blw s z).2)) → ¬ ixI t y < ixI s z := by
    intro s z t y hz hy h hn g
    rcases hn with ⟨rfl, h1⟩ | h1
    · have := (ix_min t y z hy h1).1; omega
    · rcases Int.lt_or_le (ixI t y) (ixI s z - 1) with g1 | g1
      · rw [← ix_blw] at g1
        have := hE _ _ (ix_val.1 g1) (Int.le_of_lt h1); omega
      · have e : ixI (blw s z).1 (blw s z).2 = ixI t y := by rw [ix_blw]; omega
        rw [ix_eq e] at h1; omega
  rcases hx with ⟨rfl, m1, hm1, h1⟩ | ⟨s, z, rfl, h1, h2, h3⟩
  · rcases hy with ⟨rfl, _⟩ | ⟨t, y, rfl, g1, g2, g3⟩
    · rfl
    · exact absurd h1 (high g1 g2 m1 hm1)
  · rcases hy with ⟨rfl, m1, hm1, g1⟩ | ⟨t, y, rfl, g1, g2, g3⟩
    · exact absurd g1 (high h1 h2 m1 hm1)
    · refine pw_ix ?_
      have a1 := aux h1 g1 g2 h3
      have a2 := aux g1 h1 h2 g3
      omega
/-- UP out of DOWN. -/
theorem up_next {E : Int → Int} (s : Bool) (z : Nat) (hz : z < INF) (h : 0 < E (V s z)) (hn : (s = false ∧ z + 1 = INF) ∨ E (V (abv s z).1 (abv s z).2) < 0) :
    UpOk E (pw (abv s z).1 (abv s z).2) := by
  obtain ⟨h1, h2⟩ := abv_le s z hz
  rcases Nat.lt_or_eq_of_le h1 with g | g
  · right
    refine ⟨_, _, rfl, g, ?_, .inr ?_⟩
    · rcases hn with ⟨rfl, e⟩ | e
      · exfalso
        have : (abv false z).2 = INF := by
          unfold abv
          have : z ≠ 0 := by rintro rfl; rw [INF_eq] at e; omega
          simp [this, e]
        omega
      · omega
    · have e : ixI (blw (abv s z).1 (abv s z).2).1 (blw (abv s z).1 (abv s z).2).2 = ixI s z := by rw [ix_blw, ix_abv]; omega
      rw [ix_eq e]; exact h
  · obtain ⟨k1, k2, k3⟩ := h2 g
    left
    refine ⟨?_, z, k3, by rw [← k2]; exact h⟩
    rw [k1, g]; unfold pw; rw [if_neg (by have := INF_pos; omega)]
theorem up_same {E : Int → Int} (hE : AntiI E) (s : Bool) (z : Nat) (hz : z < INF) (h : E (V s z) = 0) : UpOk E (pw s z) := by
  right
  refine ⟨s, z, rfl, hz, by omega, ?_⟩
  right
  refine hE _ (V s z) (ix_val.1 ?_) (by omega)
  rw [ix_blw]; omega
theorem up_low {E : Int → Int} (mx : Nat) (hm : mx + 1 = INF) (h : E (V true mx) < 0) : UpOk E (W true mx) := by
  right
  refine ⟨true, mx, ?_, by omega, by omega, .inl ⟨rfl, hm⟩⟩
  unfold pw; rw [if_neg (by have : 1 < INF := by rw [INF_eq]; omega
                            omega)]
end Go.Proofs.Ytiohmafmkdbljaa
