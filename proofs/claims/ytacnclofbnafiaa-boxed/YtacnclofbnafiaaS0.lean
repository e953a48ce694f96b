import Derived.Test.YtacnclofbnafiaaK5
import Derived.Test.YtacnclofbnafiaaK9
namespace Go.Proofs.Ytacnclofbnafiaa
open Go.RowKit Fl

theorem pempty : ∀ w, Calls Try.prog 137 #[] w fun e w' => e = .returned (.agg #[.float .f64 (B INF), .float .f64 (B (-INF))]) ∧ Below w.heap.size w w' := empty_w _ _ infp infn
theorem pall : ∀ w, Calls Try.prog 142 #[] w fun e w' => e = .returned (.agg #[.float .f64 (B (-INF)), .float .f64 (B INF)]) ∧ Below w.heap.size w w' := all_w _ _ infp infn
theorem rempty : ∀ w, Calls Try.prog 98 #[] w fun e w' => e = .returned (.agg #[.float .f64 (B INF), .float .f64 (B (-INF))]) ∧ Below w.heap.size w w' := rempty_w _ _ infp infn
theorem emp_no : NoIv (B INF) (B (-INF)) := by
  intro k l h
  have hI := INF_pos
  have h1 := h.x.unique (Key.of_B (by omega) (Int.le_refl _))
  have h2 := h.y.unique (Key.of_B (Int.le_refl _) (by omega))
  have := h.le
  omega
theorem emp1 : B INF < 18446744073709551616 := (Key.of_B (by omega) (Int.le_refl _)).lt
theorem emp2 : B (-INF) < 18446744073709551616 := (Key.of_B (Int.le_refl _) (by omega)).lt
theorem rnone_no {X1 X2 : Nat} {k l : Int} (h : Iv X1 X2 k l) : ∀ w, Calls Try.prog 97 #[.agg #[.float .f64 X1, .float .f64 X2]] w fun e w' => e = .returned (.bool false) ∧ Below w.heap.size w w' := by
  have hI := INF_pos
  have h1 : (Ieee.double.order X1 X1 != some .eq) = false := by rw [h.x.self]; rfl
  have h2 : (Ieee.double.order X2 X2 != some .eq) = false := by rw [h.y.self]; rfl
  have e1 := h.le
  have e2 := h.lo
  have e3 := h.hi
  have h3 : (Ieee.double.order X1 X2 == some .gt) = false := by
    rw [h.x.order h.y]
    have : compare k l ≠ .gt := by rw [Ne, Int.compare_eq_gt]; omega
    simp [this]
  have h4 : (Ieee.double.order X1 9218868437227405311 == some .gt) = false := by
    rw [h.x.order Key.max]
    have : compare k (INF - 1) ≠ .gt := by rw [Ne, Int.compare_eq_gt]; omega
    simp [this]
  have h5 : (Ieee.double.order X2 18442240474082181119 == some .lt) = false := by
    rw [h.y.order Key.nmax]
    have : compare l (1 - INF) ≠ .lt := by rw [Ne, Int.compare_eq_lt]; omega
    simp [this]
  exact rnone5_w X1 X2 h1 h2 h3 h4 h5
theorem rnone_yes {X1 X2 : Nat} (h : NoIv X1 X2) (hX1 : X1 < 18446744073709551616) (hX2 : X2 < 18446744073709551616) : ∀ w, Calls Try.prog 97 #[.agg #[.float .f64 X1, .float .f64 X2]] w fun e w' => e = .returned (.bool true) ∧ Below w.heap.size w w' := by
  rcases h.cases hX1 hX2 with g | ⟨k, g1, g⟩ | ⟨k, l, g1, g2, g⟩
  · exact rnone0_w X1 X2 (by rw [g.l]; rfl)
  · exact rnone1_w X1 X2 (by rw [g1.self]; rfl) (by rw [g.l]; rfl)
  · have h1 : (Ieee.double.order X1 X1 != some .eq) = false := by rw [g1.self]; rfl
    have h2 : (Ieee.double.order X2 X2 != some .eq) = false := by rw [g2.self]; rfl
    rcases g with g | ⟨g, g3⟩ | ⟨g, g3, g4⟩
    · exact rnone2_w X1 X2 h1 h2 (by rw [g1.ogt g2 g]; rfl)
    · have h3 : (Ieee.double.order X1 X2 == some .gt) = false := by
        rw [g1.order g2]
        have : compare k l ≠ .gt := by rw [Ne, Int.compare_eq_gt]; omega
        simp [this]
      exact rnone3_w X1 X2 h1 h2 h3 (by rw [g1.ogt Key.max (by omega)]; rfl)
    · have h3 : (Ieee.double.order X1 X2 == some .gt) = false := by
        rw [g1.order g2]
        have : compare k l ≠ .gt := by rw [Ne, Int.compare_eq_gt]; omega
        simp [this]
      have h4 : (Ieee.double.order X1 9218868437227405311 == some .gt) = false := by
        rw [g1.order Key.max]
        have : compare k (INF - 1) ≠ .gt := by rw [Ne, Int.compare_eq_gt]; omega
        simp [this]
      exact rnone4_w X1 X2 h1 h2 h3 h4 (by rw [g2.olt Key.nmax (by omega)]; rfl)
theorem rplain {x y : Nat} {k l : Int} (hx : Key x k) (hy : Key y l) : ∀ w, Calls Try.prog 99 #[.float .f64 x, .float .f64 y] w fun e w' => e = .returned (.agg #[.float .f64 (B k), .float .f64 (B l)]) ∧ Below w.heap.size w w' := rplain_w x y _ _ hx.plus0 hy.plus0
theorem pneg {X1 X2 : Nat} {k l : Int} (hx : Key X1 k) (hy : Key X2 l) : ∀ w, Calls Try.prog 138 #[.agg #[.float .f64 X1, .float .f64 X2]] w fun e w' => e = .returned (.agg #[.float .f64 (B (-l)), .float .f64 (B (-k))]) ∧ Below w.heap.size w w' := neg_w X1 X2 _ _ hy.minus hx.minus
theorem neg_pl {k : Int} (h : Pl k) : Pl (-k) := by unfold Pl at *; omega
theorem Iv.neg {X1 X2 : Nat} {k l : Int} (h : Iv X1 X2 k l) : Iv (B (-l)) (B (-k)) (-l) (-k) :=
  ⟨Key.at (neg_pl h.y.pl), Key.at (neg_pl h.x.pl), by have := h.le; omega, by have := h.hi; omega, by have := h.lo; omega⟩
theorem rneg_ok {X1 X2 : Nat} {k l : Int} (h : Iv X1 X2 k l) : ∀ w, Calls Try.prog 101 #[.agg #[.float .f64 X1, .float .f64 X2]] w fun e w' => e = .returned (.agg #[.float .f64 (B (-l)), .float .f64 (B (-k))]) ∧ Below w.heap.size w w' :=
  rneg_ok_w X1 X2 _ _ _ _ (rnone_no h) h.y.minus h.x.minus (rplain (Key.at (neg_pl h.y.pl)) (Key.at (neg_pl h.x.pl)))
theorem rneg_no {X1 X2 : Nat} (h : NoIv X1 X2) (hX1 : X1 < 18446744073709551616) (hX2 : X2 < 18446744073709551616) : ∀ w, Calls Try.prog 101 #[.agg #[.float .f64 X1, .float .f64 X2]] w fun e w' => e = .returned (.agg #[.float .f64 (B INF), .float .f64 (B (-INF))]) ∧ Below w.heap.size w w' := rneg_no_w X1 X2 _ _ (rnone_yes h hX1 hX2) rempty
/-- Two calls that answer the same, with no NaN. -/
theorem alike_any {a b : Int} (ha : Pl a) (hb : Pl b) : ∀ w, Calls Try.prog 35 #[.agg #[.float .f64 (B a), .float .f64 (B b)], .agg #[.float .f64 (B a), .float .f64 (B b)]] w fun e w' => e = .returned (.bool true) ∧ Below w.heap.size w w' := alike_w _ _ (same_any _ (Key.at ha).self) (same_any _ (Key.at hb).self)
theorem emp_pl : Pl INF ∧ Pl (-INF) := by have := INF_pos; unfold Pl; omega
end Go.Proofs.Ytacnclofbnafiaa
