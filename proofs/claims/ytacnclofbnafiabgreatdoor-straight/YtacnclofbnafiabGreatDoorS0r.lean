import Derived.Test.YtacnclofbnafiabGreatDoorK9
import Derived.Test.YtacnclofbnafiabGreatDoorK4
import Derived.Test.YtacnclofbnafiabGreatDoorB1r
namespace Go.Proofs.YtacnclofbnafiabGreatDoor
open Go.RowKit Fl

theorem rempty : ∀ w, Calls Tryz.prog 106 #[] w fun e w' => e = .returned (.agg #[.float .f64 (B INF), .float .f64 (B (-INF))]) ∧ Below w.heap.size w w' := rempty_w _ _ infp infn
theorem rnone_no {X1 X2 : Nat} {k l : Int} (h : Iv X1 X2 k l) : ∀ w, Calls Tryz.prog 105 #[.agg #[.float .f64 X1, .float .f64 X2]] w fun e w' => e = .returned (.bool false) ∧ Below w.heap.size w w' := by
  have hI := INF_pos
  have h1 : (Ieee.double.order X1 X1 != some .eq) = false := by rw [h.x.self]; rfl
  have h2 : (Ieee.double.order X2 X2 != some .eq) = false := by rw [h.y.self]; rfl
  have e1 := h.le
  have e2 := h.lo
  have e3 := h.hi
  have h3 : (Ieee.double.order X1 X2 == some .gt) = false := by
    rw [h.x.order h.y]
    have : compare k l ≠ .gt := by rw [Ne, Int.compare_eq_gt]; omega
    simp [this]
  have h4 : (Ieee.double.order X1 9218868437227405311 == some .gt) = false := by
    rw [h.x.order Key.max]
    have : compare k (INF - 1) ≠ .gt := by rw [Ne, Int.compare_eq_gt]; omega
    simp [this]
  have h5 : (Ieee.double.order X2 18442240474082181119 == some .lt) = false := by
    rw [h.y.order Key.nmax]
    have : compare l (1 - INF) ≠ .lt := by rw [Ne, Int.compare_eq_lt]; omega
    simp [this]
  exact rnone5_w X1 X2 h1 h2 h3 h4 h5
theorem rnone_yes {X1 X2 : Nat} (h : NoIv X1 X2) (hX1 : X1 < 18446744073709551616) (hX2 : X2 < 18446744073709551616) : ∀ w, Calls Tryz.prog 105 #[.agg #[.float .f64 X1, .float .f64 X2]] w fun e w' => e = .returned (.bool true) ∧ Below w.heap.size w w' := by
  rcases h.cases hX1 hX2 with g | ⟨k, g1, g⟩ | ⟨k, l, g1, g2, g⟩
  · exact rnone0_w X1 X2 (by rw [g.l]; rfl)
  · exact rnone1_w X1 X2 (by rw [g1.self]; rfl) (by rw [g.l]; rfl)
  · have h1 : (Ieee.double.order X1 X1 != some .eq) = false := by rw [g1.self]; rfl
    have h2 : (Ieee.double.order X2 X2 != some .eq) = false := by rw [g2.self]; rfl
    rcases g with g | ⟨g, g3⟩ | ⟨g, g3, g4⟩
    · exact rnone2_w X1 X2 h1 h2 (by rw [g1.ogt g2 g]; rfl)
    · have h3 : (Ieee.double.order X1 X2 == some .gt) = false := by
        rw [g1.order g2]
        have : compare k l ≠ .gt := by rw [Ne, Int.compare_eq_gt]; omega
        simp [this]
      exact rnone3_w X1 X2 h1 h2 h3 (by rw [g1.ogt Key.max (by omega)]; rfl)
    · have h3 : (Ieee.double.order X1 X2 == some .gt) = false := by
        rw [g1.order g2]
        have : compare k l ≠ .gt := by rw [Ne, Int.compare_eq_gt]; omega
        simp [this]
      have h4 : (Ieee.double.order X1 9218868437227405311 == some .gt) = false := by
        rw [g1.order Key.max]
        have : compare k (INF - 1) ≠ .gt := by rw [Ne, Int.compare_eq_gt]; omega
        simp [this]
      exact rnone4_w X1 X2 h1 h2 h3 h4 (by rw [g2.olt Key.nmax (by omega)]; rfl)
theorem rbare_no {a b c d : Nat} {k l m n : Int} (h : Iv a b k l) (h' : Iv c d m n) : ∀ w, Calls Tryz.prog 74 #[.agg #[.float .f64 a, .float .f64 b, .float .f64 c, .float .f64 d]] w fun e w' => e = .returned (.bool false) ∧ Below w.heap.size w w' :=
  rbare_ff_w _ _ _ _ (rnone_no h) (rnone_no h')
theorem rbare_yes {a b c d : Nat} (ha : a < 18446744073709551616) (hb : b < 18446744073709551616) (hc : c < 18446744073709551616) (hd : d < 18446744073709551616) (h : NoIv a b ∨ NoIv c d) : ∀ w, Calls Tryz.prog 74 #[.agg #[.float .f64 a, .float .f64 b, .float .f64 c, .float .f64 d]] w fun e w' => e = .returned (.bool true) ∧ Below w.heap.size w w' := by
  rcases Iv.or a b with ⟨k, l, g⟩ | g <;> rcases Iv.or c d with ⟨m, n, g'⟩ | g'
  · rcases h with h | h
    · exact absurd g (h k l)
    · exact absurd g' (h m n)
  · exact rbare_ft_w _ _ _ _ (rnone_no g) (rnone_yes g' hc hd)
  · exact rbare_tf_w _ _ _ _ (rnone_yes g ha hb) (rnone_no g')
  · exact rbare_tt_w _ _ _ _ (rnone_yes g ha hb) (rnone_yes g' hc hd)

end Go.Proofs.YtacnclofbnafiabGreatDoor
