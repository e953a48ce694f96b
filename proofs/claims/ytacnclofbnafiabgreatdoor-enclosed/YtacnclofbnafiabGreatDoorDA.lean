import Derived.Test.YtacnclofbnafiabGreatDoorW5
import Derived.Test.YtacnclofbnafiabGreatDoorFA
namespace Go.Proofs.YtacnclofbnafiabGreatDoor
open Fl

def abv (s : Bool) (z : Nat) : Bool × Nat := if z = 0 then (false, 1) else if s then (if z = 1 then (false, 0) else (true, z - 1)) else (false, z + 1)
def blw (s : Bool) (z : Nat) : Bool × Nat := (!(abv (!s) z).1, (abv (!s) z).2)
/-- The place among the floats. -/
def ixI (s : Bool) (z : Nat) : Int := if s then -(z : Int) else z
theorem ix_abv (s : Bool) (z : Nat) : ixI (abv s z).1 (abv s z).2 = ixI s z + 1 := by
  unfold abv
  split
  · rename_i h; subst h; cases s <;> simp [ixI]
  · cases s
    · simp [ixI]
    · simp only [if_true]
      split
      · rename_i h; subst h; simp [ixI]
      · simp [ixI]; omega
theorem ix_not (s : Bool) (z : Nat) : ixI (!s) z = - ixI s z := by cases s <;> simp [ixI]
theorem ix_blw (s : Bool) (z : Nat) : ixI (blw s z).1 (blw s z).2 = ixI s z - 1 := by
  unfold blw
  rw [ix_not, ix_abv, ix_not]; omega
theorem ix_val {s t : Bool} {z y : Nat} : ixI s z < ixI t y ↔ V s z < V t y := by
  have h1 : z < y → M z < M y := M_lt
  have h2 : y < z → M y < M z := M_lt
  have h3 : z = y → M z = M y := fun h => by rw [h]
  have h4 : 0 < z → 0 < M z := M_pos
  have h5 : 0 < y → 0 < M y := M_pos
  have h6 : z = 0 → M z = 0 := fun h => by rw [h, M_zero]
  have h7 : y = 0 → M y = 0 := fun h => by rw [h, M_zero]
  unfold ixI V
  cases s <;> cases t <;> simp <;> constructor <;> intro h
  all_goals
    rcases Nat.lt_trichotomy z y with e | e | e
    all_goals
      rcases Nat.eq_zero_or_pos z with e' | e'
      all_goals
        rcases Nat.eq_zero_or_pos y with e'' | e'' <;>
        first
          | omega
          | (have := h1 e; omega)
          | (have := h2 e; omega)
          | (have := h4 e'; omega)
          | (have := h5 e''; omega)
theorem ix_eq {s t : Bool} {z y : Nat} (h : ixI s z = ixI t y) : V s z = V t y := by
  rcases Int.lt_trichotomy (V s z) (V t y) with e | e | e
  · have := ix_val.2 e; omega
  · exact e
  · have := ix_val.2 e; omega
theorem pw_ix {s t : Bool} {z y : Nat} (h : ixI s z = ixI t y) : pw s z = pw t y := by
  unfold ixI at h
  unfold pw
  cases s <;> cases t <;> simp only [Bool.false_eq_true, if_false, if_true] at h
  · have : z = y := by omega
    rw [this]
  · have : z = 0 ∧ y = 0 := by omega
    rw [this.1, this.2]; rfl
  · have : z = 0 ∧ y = 0 := by omega
    rw [this.1, this.2]; rfl
  · have : z = y := by omega
    rw [this]
theorem abv_le (s : Bool) (z : Nat) (hz : z < INF) : (abv s z).2 ≤ INF ∧ ((abv s z).2 = INF → (abv s z).1 = false ∧ s = false ∧ z + 1 = INF) := by
  have := INF_pos
  have h2 : 1 < INF := by rw [INF_eq]; omega
  unfold abv
  split
  · exact ⟨by simp; omega, fun h => by simp at h; omega⟩
  · cases s
    · exact ⟨by simp; omega, fun h => ⟨rfl, rfl, h⟩⟩
    · simp only [if_true]
      split
      · exact ⟨by simp, fun h => by simp at h; omega⟩
      · exact ⟨by simp; omega, fun h => by simp at h; omega⟩
theorem blw_le (s : Bool) (z : Nat) (hz : z < INF) : (blw s z).2 ≤ INF ∧ ((blw s z).2 = INF → (blw s z).1 = true ∧ s = true ∧ z + 1 = INF) := by
  obtain ⟨h1, h2⟩ := abv_le (!s) z hz
  unfold blw
  refine ⟨h1, fun h => ?_⟩
  obtain ⟨g1, g2, g3⟩ := h2 h
  simp only [g1]
  exact ⟨rfl, by cases s <;> simp at g2 ⊢, g3⟩

/-- The sign of what is exact less v falls. -/
def AntiI (E : Int → Int) : Prop := ∀ a b, a < b → 0 ≤ E b → 0 < E a
theorem AntiI.neg {E : Int → Int} (h : AntiI E) {a b : Int} (hab : a < b) (ha : E a ≤ 0) : E b < 0 := by
  rcases Int.lt_or_le (E b) 0 with h' | h'
  · exact h'
  · have := h a b hab h'; omega
def DownOk (E : Int → Int) (x : Nat) : Prop :=
  (x = W true INF ∧ ∃ mx, mx + 1 = INF ∧ E (V true mx) < 0) ∨ ∃ s z, x = pw s z ∧ z < INF ∧ 0 ≤ E (V s z) ∧ ((s = false ∧ z + 1 = INF) ∨ E (V (abv s z).1 (abv s z).2) < 0)
def UpOk (E : Int → Int) (x : Nat) : Prop :=
  (x = W false INF ∧ ∃ mx, mx + 1 = INF ∧ 0 < E (V false mx)) ∨ ∃ s z, x = pw s z ∧ z < INF ∧ E (V s z) ≤ 0 ∧ ((s = true ∧ z + 1 = INF) ∨ 0 < E (V (blw s z).1 (blw s z).2))
theorem ix_min (s : Bool) (z mx : Nat) (hz : z < INF) (hm : mx + 1 = INF) : ixI true mx ≤ ixI s z ∧ ixI s z ≤ ixI false mx := by
  unfold ixI; cases s <;> simp <;> omega
theorem DownOk.unique {E : Int → Int} (hE : AntiI E) {x y : Nat} (hx : DownOk E x) (hy : DownOk E y) : x = y := by
  have low : ∀ {s z}, z < INF → 0 ≤ E (V s z) → ∀ mx, mx + 1 = INF → ¬ E (V true mx) < 0 := by
    intro s z hz h mx hm hn
    have h1 := (ix_min s z mx hz hm).1
    rcases Int.lt_or_le (ixI true mx) (ixI s z) with g | g
    · have := hE _ _ (ix_val.1 g) h; omega
    · have := ix_eq (show ixI true mx = ixI s z by omega); rw [this] at hn; omega
  have aux : ∀ {s z t y}, z < INF → y < INF → 0 ≤ E (V t y) → ((s = false ∧ z + 1 = INF) ∨ E (V (abv s z).1 (abv s z).2) < 0) → ¬ ixI s z < ixI t y := by
    intro s z t y hz hy h hn g
    rcases hn with ⟨rfl, h1⟩ | h1
    · have := (ix_min t y z hy h1).2; omega
    · rcases Int.lt_or_le (ixI s z + 1) (ixI t y) with g1 | g1
      · rw [← ix_abv] at g1
        have := hE _ _ (ix_val.1 g1) h; omega
      · have e : ixI (abv s z).1 (abv s z).2 = ixI t y := by rw [ix_abv]; omega
        rw [ix_eq e] at h1; omega
  rcases hx with ⟨rfl, m1, hm1, h1⟩ | ⟨s, z, rfl, h1, h2, h3⟩
  · rcases hy with ⟨rfl, _⟩ | ⟨t, y, rfl, g1, g2, g3⟩
    · rfl
    · exact absurd h1 (low g1 g2 m1 hm1)
  · rcases hy with ⟨rfl, m1, hm1, g1⟩ | ⟨t, y, rfl, g1, g2, g3⟩
    · exact absurd g1 (low h1 h2 m1 hm1)
    · refine pw_ix ?_
      have a1 := aux h1 g1 g2 h3
      have a2 := aux g1 h1 h2 g3
      omega
theorem UpOk.unique {E : Int → Int} (hE : AntiI E) {x y : Nat} (hx : UpOk E x) (hy : UpOk E y) : x = y := by
  have high : ∀ {s z}, z < INF → E (V s z) ≤ 0 → ∀ mx, mx + 1 = INF → ¬ 0 < E (V false mx) := by
    intro s z hz h mx hm hn
    have h1 := (ix_min s z mx hz hm).2
    rcases Int.lt_or_le (ixI s z) (ixI false mx) with g | g
    · have := hE _ _ (ix_val.1 g) (Int.le_of_lt hn); omega
    · have := ix_eq (show ixI false mx = ixI s z by omega); rw [this] at hn; omega
  have aux : ∀ {s z t y}, z < INF → y < INF → E (V t y) ≤ 0 → ((s = true ∧ z + 1 = INF) ∨ 0 < E (V (blw s z).1 (blw s z).2)) → ¬ ixI t y < ixI s z := by
    intro s z t y hz hy h hn g
    rcases hn with ⟨rfl, h1⟩ | h1
    · have := (ix_min t y z hy h1).1; omega
    · rcases Int.lt_or_le (ixI t y) (ixI s z - 1) with g1 | g1
      · rw [← ix_blw] at g1
        have := hE _ _ (ix_val.1 g1) (Int.le_of_lt h1); omega
      · have e : ixI (blw s z).1 (blw s z).2 = ixI t y := by rw [ix_blw]; omega
        rw [ix_eq e] at h1; omega
  rcases hx with ⟨rfl, m1, hm1, h1⟩ | ⟨s, z, rfl, h1, h2, h3⟩
  · rcases hy with ⟨rfl, _⟩ | ⟨t, y, rfl, g1, g2, g3⟩
    · rfl
    · exact absurd h1 (high g1 g2 m1 hm1)
  · rcases hy with ⟨rfl, m1, hm1, g1⟩ | ⟨t, y, rfl, g1, g2, g3⟩
    · exact absurd g1 (high h1 h2 m1 hm1)
    · refine pw_ix ?_
      have a1 := aux h1 g1 g2 h3
      have a2 := aux g1 h1 h2 g3
      omega
end Go.Proofs.YtacnclofbnafiabGreatDoor

namespace Go.Proofs.YtacnclofbnafiabGreatDoor
open Fl

structure LinkE (sg : Bool) (E : Int → Int) (C : Nat → Int) : Prop where
  pos : sg = false → ∀ k, (0 ≤ E (V false k) ↔ 0 ≤ C (M k)) ∧ (E (V false k) ≤ 0 ↔ C (M k) ≤ 0)
  neg : sg = true → ∀ k, (0 ≤ E (V true k) ↔ C (M k) ≤ 0) ∧ (E (V true k) ≤ 0 ↔ 0 ≤ C (M k))
theorem lohi_ok {sg : Bool} {E : Int → Int} {C : Nat → Int} {lo hi : Nat} (hE : AntiI E) (L : LinkE sg E C) (h : LoHi C lo hi) : DownOk E (dnW sg lo hi) ∧ UpOk E (upW sg lo hi) := by
  have h1 := h.lo_lt
  have h2 := h.hi_le
  have hI1 : 1 < INF := by rw [INF_eq]; omega
  cases sg
  · have l := L.pos rfl
    constructor
    · right
      refine ⟨false, lo, rfl, h1, (l lo).1.2 h.lo_ok, ?_⟩
      by_cases e : lo + 1 = INF
      · exact .inl ⟨rfl, e⟩
      · right
        have e2 : ixI (abv false lo).1 (abv false lo).2 = ixI false (lo + 1) := by rw [ix_abv]; unfold ixI; simp
        rw [ix_eq e2]
        have := h.lo_next (by omega)
        rcases Int.lt_or_le (E (V false (lo + 1))) 0 with g | g
        · exact g
        · have := (l (lo + 1)).1.1 g; omega
    · by_cases e : hi = INF
      · left
        refine ⟨by unfold upW pw; simp [e]; omega, hi - 1, by omega, ?_⟩
        have := h.hi_prev (by omega)
        rcases Int.lt_or_le 0 (E (V false (hi - 1))) with g | g
        · exact g
        · have := (l (hi - 1)).2.1 g; omega
      · right
        refine ⟨false, hi, rfl, by omega, (l hi).2.2 (h.hi_ok (by omega)), .inr ?_⟩
        rcases Nat.eq_zero_or_pos hi with e0 | e0
        · subst e0
          have hc := h.hi_ok (by omega)
          have hz : E (V false 0) ≤ 0 := (l 0).2.2 hc
          have hlo : lo = 0 := by
            rcases Nat.eq_zero_or_pos lo with g | g
            · exact g
            · exfalso
              have k1 : 0 ≤ E (V false lo) := (l lo).1.2 h.lo_ok
              have k2 : V false 0 < V false lo := (V_lt_pos 0 lo).2 g
              have := hE.neg k2 hz
              omega
          have k1 : 0 ≤ E (V false lo) := (l lo).1.2 h.lo_ok
          rw [hlo] at k1
          refine hE _ (V false 0) (ix_val.1 ?_) k1
          rw [ix_blw]; omega
        · have e2 : ixI (blw false hi).1 (blw false hi).2 = ixI false (hi - 1) := by rw [ix_blw]; unfold ixI; simp; omega
          rw [ix_eq e2]
          have := h.hi_prev e0
          rcases Int.lt_or_le 0 (E (V false (hi - 1))) with g | g
          · exact g
          · have := (l (hi - 1)).2.1 g; omega
  · have l := L.neg rfl
    constructor
    · by_cases e : hi = INF
      · left
        refine ⟨by unfold dnW pw; simp [e]; omega, hi - 1, by omega, ?_⟩
        have := h.hi_prev (by omega)
        rcases Int.lt_or_le (E (V true (hi - 1))) 0 with g | g
        · exact g
        · have := (l (hi - 1)).1.1 g; omega
      · right
        refine ⟨true, hi, rfl, by omega, (l hi).1.2 (h.hi_ok (by omega)), .inr ?_⟩
        rcases Nat.eq_zero_or_pos hi with e0 | e0
        · subst e0
          have hc := h.hi_ok (by omega)
          have hz : 0 ≤ E (V true 0) := (l 0).1.2 hc
          have hlo : lo = 0 := by
            rcases Nat.eq_zero_or_pos lo with g | g
            · exact g
            · exfalso
              have k1 : E (V true lo) ≤ 0 := (l lo).2.2 h.lo_ok
              have k2 : V true lo < V true 0 := by rw [V_zero]; exact V_neg g
              have := hE _ _ k2 hz
              omega
          have k1 : E (V true lo) ≤ 0 := (l lo).2.2 h.lo_ok
          rw [hlo] at k1
          refine hE.neg (a := V true 0) (ix_val.1 ?_) k1
          rw [ix_abv]; omega
        · have e2 : ixI (abv true hi).1 (abv true hi).2 = ixI true (hi - 1) := by rw [ix_abv]; unfold ixI; simp; omega
          rw [ix_eq e2]
          have := h.hi_prev e0
          rcases Int.lt_or_le (E (V true (hi - 1))) 0 with g | g
          · exact g
          · have := (l (hi - 1)).1.1 g; omega
    · right
      refine ⟨true, lo, rfl, h1, (l lo).2.2 h.lo_ok, ?_⟩
      by_cases e : lo + 1 = INF
      · exact .inl ⟨rfl, e⟩
      · right
        have e2 : ixI (blw true lo).1 (blw true lo).2 = ixI true (lo + 1) := by rw [ix_blw]; unfold ixI; simp; omega
        rw [ix_eq e2]
        have := h.lo_next (by omega)
        rcases Int.lt_or_le 0 (E (V true (lo + 1))) with g | g
        · exact g
        · have := (l (lo + 1)).2.1 g; omega

-- the four
def Ep (A : Int) : Int → Int := fun v => A - v
def Et (A : Int) : Int → Int := fun v => A - v * (U : Int)
def Eo (t : Bool) (A B : Int) : Int → Int := fun v => if t then -(A - v * B) else A - v * B
def Er (A : Int) : Int → Int := fun v => if v < 0 then 1 else A - v * v
theorem Ep_anti (A : Int) : AntiI (Ep A) := by intro a b h h'; unfold Ep at *; omega
theorem Et_anti (A : Int) : AntiI (Et A) := by
  intro a b h h'
  unfold Et at *
  have := Int.mul_lt_mul_of_pos_right h (show (0 : Int) < U by have := U_pos; omega)
  omega
theorem Eo_anti (t : Bool) (A : Int) (q : Nat) (hq : 0 < q) : AntiI (Eo t A (V t q)) := by
  intro a b h h'
  have hm := M_pos hq
  have := Int.mul_lt_mul_of_pos_right h (show (0 : Int) < M q by omega)
  unfold Eo V at *
  cases t
  · simp only [Bool.false_eq_true, if_false] at *; omega
  · simp only [if_true, Int.mul_neg] at *; omega
theorem Er_anti (A : Int) : AntiI (Er A) := by
  intro a b h h'
  unfold Er at *
  by_cases ha : a < 0
  · rw [if_pos ha]; omega
  · rw [if_neg ha]
    rw [if_neg (by omega)] at h'
    have h1 : a * a < b * b := by
      have h2 : a * a ≤ a * b := Int.mul_le_mul_of_nonneg_left (by omega) (by omega)
      have h3 : a * b < b * b := Int.mul_lt_mul_of_pos_right h (by omega)
      omega
    omega
theorem link_p (sg : Bool) (A : Int) (h : SgnOk sg A) : LinkE sg (Ep A) (Rt A.natAbs 1) := by
  constructor
  · rintro rfl k
    have : 0 ≤ A := by rcases Int.lt_or_le A 0 with g | g
                       · have := h.1 g; simp at this
                       · exact g
    unfold Ep Rt V; simp; omega
  · rintro rfl k
    have : A ≤ 0 := by rcases Int.lt_or_le 0 A with g | g
                       · have := h.2 g; simp at this
                       · exact g
    unfold Ep Rt V; simp; omega
theorem link_t (s t : Bool) (r q : Nat) : LinkE (s ^^ t) (Et (V s r * V t q)) (Rt (M r * M q) U) := by
  constructor
  · intro h k
    have e : V s r * V t q = ((M r * M q : Nat) : Int) := by rw [V_mul, h]; rfl
    unfold Et Rt
    rw [e]
    have e2 : V false k * (U : Int) = ((M k * U : Nat) : Int) := by unfold V; rw [Int.natCast_mul]; rfl
    rw [e2]
    exact ⟨Iff.rfl, Iff.rfl⟩
  · intro h k
    have e : V s r * V t q = -((M r * M q : Nat) : Int) := by rw [V_mul, h]; rfl
    unfold Et Rt
    rw [e]
    have e2 : V true k * (U : Int) = -((M k * U : Nat) : Int) := by unfold V; rw [if_pos rfl, Int.neg_mul, Int.natCast_mul]
    rw [e2]
    omega
theorem link_o (s t : Bool) (r q : Nat) : LinkE (s ^^ t) (Eo t (V s r * (U : Int)) (V t q)) (Rt (M r * U) (M q)) := by
  have e1 : ∀ s : Bool, V s r * (U : Int) = if s then -((M r * U : Nat) : Int) else ((M r * U : Nat) : Int) := by
    intro s; unfold V; cases s
    · simp
    · simp [Int.neg_mul]
  constructor
  · intro h k
    unfold Eo Rt
    rw [V_mul, e1]
    cases s <;> cases t <;> simp at h ⊢ <;> omega
  · intro h k
    unfold Eo Rt
    rw [V_mul, e1]
    cases s <;> cases t <;> simp at h ⊢ <;> omega
theorem link_r (r : Nat) : LinkE false (Er (V false r * (U : Int))) (Sq (M r * U)) := by
  constructor
  · intro _ k
    have h0 : ¬ V false k < 0 := by unfold V; simp
    unfold Er Sq
    rw [if_neg h0]
    have e1 : V false r * (U : Int) = ((M r * U : Nat) : Int) := by unfold V; rw [Int.natCast_mul]; rfl
    have e2 : V false k * V false k = ((M k * M k : Nat) : Int) := by unfold V; rw [Int.natCast_mul]; rfl
    rw [e1, e2]
    exact ⟨Iff.rfl, Iff.rfl⟩
  · intro h; cases h
end Go.Proofs.YtacnclofbnafiabGreatDoor

namespace Go.Proofs.YtacnclofbnafiabGreatDoor.Fl

/-- What the first n digits are worth. -/
def dv (f : Nat → Int) : Nat → Int
  | 0 => 0
  | n + 1 => dv f n + f n * ((2 ^ (24 * n) : Nat) : Int)
theorem dv_zero : ∀ n, dv (fun _ => 0) n = 0
  | 0 => rfl
  | n + 1 => by unfold dv; rw [dv_zero n]; simp
/-- d more at digit q. -/
def upd (f : Nat → Int) (q : Nat) (d : Int) : Nat → Int := fun j => if j = q then f j + d else f j
theorem dv_upd_ge (f : Nat → Int) (q : Nat) (d : Int) : ∀ n, n ≤ q → dv (upd f q d) n = dv f n
  | 0, _ => rfl
  | n + 1, h => by
    unfold dv
    rw [dv_upd_ge f q d n (by omega)]
    unfold upd
    rw [if_neg (by omega)]
theorem dv_upd (f : Nat → Int) (q : Nat) (d : Int) : ∀ n, q < n → dv (upd f q d) n = dv f n + d * ((2 ^ (24 * q) : Nat) : Int)
  | 0, h => by omega
  | n + 1, h => by
    unfold dv
    by_cases e : q = n
    · subst e
      rw [dv_upd_ge f q d q (Nat.le_refl _)]
      unfold upd
      rw [if_pos rfl, Int.add_mul]; omega
    · rw [dv_upd f q d n (by omega)]
      have : upd f q d n = f n := by unfold upd; rw [if_neg (by omega)]
      rw [this]; omega
/-- One step: p times sh at digit q, in two digits. -/
theorem dv_step (f : Nat → Int) (q n : Nat) (st p sh : Int) (hq : q + 1 < n) :
    dv (upd (upd f q (st * (p % 16777216) * sh)) (q + 1) (st * (p / 16777216) * sh)) n = dv f n + st * p * sh * ((2 ^ (24 * q) : Nat) : Int) := by
  rw [dv_upd _ _ _ n hq, dv_upd _ _ _ n (by omega)]
  have e : ((2 ^ (24 * (q + 1)) : Nat) : Int) = 16777216 * ((2 ^ (24 * q) : Nat) : Int) := by
    rw [show 24 * (q + 1) = 24 + 24 * q by omega, Nat.pow_add, Int.natCast_mul]; rfl
  rw [e]
  generalize ((2 ^ (24 * q) : Nat) : Int) = A
  have h : p = 16777216 * (p / 16777216) + p % 16777216 := (Int.mul_ediv_add_emod p 16777216).symm
  generalize p / 16777216 = a at *
  generalize p % 16777216 = b at *
  rw [h]
  have e1 : st * a * sh * (16777216 * A) = st * (16777216 * a) * sh * A := by
    simp only [Int.mul_assoc, Int.mul_left_comm, Int.mul_comm]
  rw [e1, Int.mul_add, Int.add_mul, Int.add_mul]; omega
/-- The sign, by digits: what is left below, and the carry. -/
structure SignInv (f : Nat → Int) (i : Nat) (c sg : Int) : Prop where
  rest : ∃ R : Int, 0 ≤ R ∧ R < ((2 ^ (24 * i) : Nat) : Int) ∧ dv f i = R + c * ((2 ^ (24 * i) : Nat) : Int) ∧ ((R = 0 ∧ sg = 0) ∨ (R ≠ 0 ∧ sg = 1))
theorem SignInv.zero (f : Nat → Int) : SignInv f 0 0 0 := ⟨0, by omega, by simp, by simp [dv], .inl ⟨rfl, rfl⟩⟩
theorem SignInv.next {f : Nat → Int} {i : Nat} {c sg : Int} (h : SignInv f i c sg) :
    SignInv f (i + 1) ((f i + c) / 16777216) (if (f i + c) % 16777216 = 0 then sg else 1) := by
  obtain ⟨R, h1, h2, h3, h4⟩ := h.rest
  have e : ((2 ^ (24 * (i + 1)) : Nat) : Int) = 16777216 * ((2 ^ (24 * i) : Nat) : Int) := by
    rw [show 24 * (i + 1) = 24 + 24 * i by omega, Nat.pow_add, Int.natCast_mul]; rfl
  have hp : (0 : Int) < ((2 ^ (24 * i) : Nat) : Int) := by have := Nat.two_pow_pos (24 * i); omega
  have hv : f i + c = 16777216 * ((f i + c) / 16777216) + (f i + c) % 16777216 := (Int.mul_ediv_add_emod _ _).symm
  have hr0 : 0 ≤ (f i + c) % 16777216 := Int.emod_nonneg _ (by omega)
  have hr1 : (f i + c) % 16777216 < 16777216 := Int.emod_lt_of_pos _ (by omega)
  generalize (f i + c) / 16777216 = a at *
  generalize (f i + c) % 16777216 = r at *
  have hd : dv f (i + 1) = dv f i + f i * ((2 ^ (24 * i) : Nat) : Int) := rfl
  generalize ((2 ^ (24 * i) : Nat) : Int) = A at *
  have hrA : r * A ≤ 16777215 * A := Int.mul_le_mul_of_nonneg_right (by omega) (by omega)
  have hrA0 : 0 ≤ r * A := Int.mul_nonneg hr0 (by omega)
  refine ⟨R + r * A, by omega, by rw [e]; omega, ?_, ?_⟩
  · rw [hd, h3, e]
    have hfc : f i = 16777216 * a + r - c := by omega
    rw [hfc]
    have e1 : a * (16777216 * A) = 16777216 * a * A := by rw [Int.mul_left_comm, Int.mul_assoc]
    rw [e1, Int.sub_mul, Int.add_mul]; omega
  · by_cases hr : r = 0
    · subst hr
      rw [if_pos rfl, Int.zero_mul, Int.add_zero]
      exact h4
    · rw [if_neg hr]
      right
      have : A ≤ r * A := by
        have := Int.mul_le_mul_of_nonneg_right (show (1 : Int) ≤ r by omega) (show (0 : Int) ≤ A by omega)
        omega
      exact ⟨by omega, rfl⟩
theorem SignInv.done {f : Nat → Int} {i : Nat} {c sg : Int} (h : SignInv f i c sg) (hb : dv f i < ((2 ^ (24 * i) : Nat) : Int)) : (if c < 0 then -1 else sg) = (dv f i).sign := by
  obtain ⟨R, h1, h2, h3, h4⟩ := h.rest
  have hp : (0 : Int) < ((2 ^ (24 * i) : Nat) : Int) := by have := Nat.two_pow_pos (24 * i); omega
  generalize ((2 ^ (24 * i) : Nat) : Int) = A at *
  by_cases hc : c < 0
  · rw [if_pos hc]
    have : c * A ≤ -1 * A := Int.mul_le_mul_of_nonneg_right (by omega) (by omega)
    exact (Int.sign_eq_neg_one_iff_neg.2 (by omega)).symm
  · rw [if_neg hc]
    have hc0 : c = 0 := by
      rcases Int.lt_or_le 0 c with g | g
      · have : 1 * A ≤ c * A := Int.mul_le_mul_of_nonneg_right (by omega) (by omega)
        omega
      · omega
    subst hc0
    rw [Int.zero_mul, Int.add_zero] at h3
    rw [h3]
    rcases h4 with ⟨h5, h6⟩ | ⟨h5, h6⟩
    · rw [h5, h6]; rfl
    · rw [h6]; exact (Int.sign_eq_one_iff_pos.2 (by omega)).symm
/-- Go's quotient and remainder, mended. -/
theorem go_div (v : Int) : (v.tmod 16777216 < 0 → v.tmod 16777216 + 16777216 = v % 16777216 ∧ v.tdiv 16777216 - 1 = v / 16777216)
    ∧ (¬ v.tmod 16777216 < 0 → v.tmod 16777216 = v % 16777216 ∧ v.tdiv 16777216 = v / 16777216) := by
  have h1 := Int.tmod_add_mul_tdiv v 16777216
  have h2 := Int.emod_add_mul_ediv v 16777216
  have h3 : 0 ≤ v % 16777216 := Int.emod_nonneg _ (by omega)
  have h4 : v % 16777216 < 16777216 := Int.emod_lt_of_pos _ (by omega)
  have h5 : v.tmod 16777216 < 16777216 := Int.tmod_lt_of_pos _ (by omega)
  have h6 : -16777216 < v.tmod 16777216 := by
    have := Int.tmod_lt_of_pos (-v) (show (0 : Int) < 16777216 by omega)
    rw [Int.neg_tmod] at this; omega
  generalize v.tmod 16777216 = a at *
  generalize v.tdiv 16777216 = b at *
  generalize v % 16777216 = c at *
  generalize v / 16777216 = d at *
  omega
end Go.Proofs.YtacnclofbnafiabGreatDoor.Fl
