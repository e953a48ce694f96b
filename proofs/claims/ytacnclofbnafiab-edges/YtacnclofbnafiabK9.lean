import Derived.Test.YtacnclofbnafiabK5
import Derived.Deep.DeepCutAuto
namespace Go.Proofs.Ytacnclofbnafiab
open Go.RowKit Fl

theorem rnone0_w (X1 X2 : Nat)
    (h1 : (Ieee.double.order X1 X1 != some .eq) = true) (w : World) :
    Calls Try.prog 27 #[.agg #[.float .f64 X1, .float .f64 X2]] w fun e w' => e = .returned (.bool true) ∧ Below w.heap.size w w' := by
  go_enter Try.func27, Try.ntmps27
  go_wp2_with fail
  go_ret
  exact ⟨rfl, (Below.refl _ _).alloc (Nat.le_refl _) _⟩

theorem rnone1_w (X1 X2 : Nat)
    (h1 : (Ieee.double.order X1 X1 != some .eq) = false)
    (h2 : (Ieee.double.order X2 X2 != some .eq) = true) (w : World) :
    Calls Try.prog 27 #[.agg #[.float .f64 X1, .float .f64 X2]] w fun e w' => e = .returned (.bool true) ∧ Below w.heap.size w w' := by
  go_enter Try.func27, Try.ntmps27
  go_wp2_with fail
  go_ret
  exact ⟨rfl, (Below.refl _ _).alloc (Nat.le_refl _) _⟩

theorem rnone2_w (X1 X2 : Nat)
    (h1 : (Ieee.double.order X1 X1 != some .eq) = false)
    (h2 : (Ieee.double.order X2 X2 != some .eq) = false)
    (h3 : (Ieee.double.order X1 X2 == some .gt) = true) (w : World) :
    Calls Try.prog 27 #[.agg #[.float .f64 X1, .float .f64 X2]] w fun e w' => e = .returned (.bool true) ∧ Below w.heap.size w w' := by
  go_enter Try.func27, Try.ntmps27
  go_wp2_with fail
  go_ret
  exact ⟨rfl, (Below.refl _ _).alloc (Nat.le_refl _) _⟩

theorem rnone3_w (X1 X2 : Nat)
    (h1 : (Ieee.double.order X1 X1 != some .eq) = false)
    (h2 : (Ieee.double.order X2 X2 != some .eq) = false)
    (h3 : (Ieee.double.order X1 X2 == some .gt) = false)
    (h4 : (Ieee.double.order X1 9218868437227405311 == some .gt) = true) (w : World) :
    Calls Try.prog 27 #[.agg #[.float .f64 X1, .float .f64 X2]] w fun e w' => e = .returned (.bool true) ∧ Below w.heap.size w w' := by
  go_enter Try.func27, Try.ntmps27
  go_wp2_with fail
  go_ret
  exact ⟨rfl, (Below.refl _ _).alloc (Nat.le_refl _) _⟩

theorem rnone4_w (X1 X2 : Nat)
    (h1 : (Ieee.double.order X1 X1 != some .eq) = false)
    (h2 : (Ieee.double.order X2 X2 != some .eq) = false)
    (h3 : (Ieee.double.order X1 X2 == some .gt) = false)
    (h4 : (Ieee.double.order X1 9218868437227405311 == some .gt) = false)
    (h5 : (Ieee.double.order X2 18442240474082181119 == some .lt) = true) (w : World) :
    Calls Try.prog 27 #[.agg #[.float .f64 X1, .float .f64 X2]] w fun e w' => e = .returned (.bool true) ∧ Below w.heap.size w w' := by
  go_enter Try.func27, Try.ntmps27
  go_wp2_with fail
  go_ret
  exact ⟨rfl, (Below.refl _ _).alloc (Nat.le_refl _) _⟩

theorem rnone5_w (X1 X2 : Nat)
    (h1 : (Ieee.double.order X1 X1 != some .eq) = false)
    (h2 : (Ieee.double.order X2 X2 != some .eq) = false)
    (h3 : (Ieee.double.order X1 X2 == some .gt) = false)
    (h4 : (Ieee.double.order X1 9218868437227405311 == some .gt) = false)
    (h5 : (Ieee.double.order X2 18442240474082181119 == some .lt) = false) (w : World) :
    Calls Try.prog 27 #[.agg #[.float .f64 X1, .float .f64 X2]] w fun e w' => e = .returned (.bool false) ∧ Below w.heap.size w w' := by
  go_enter Try.func27, Try.ntmps27
  go_wp2_with fail
  go_ret
  exact ⟨rfl, (Below.refl _ _).alloc (Nat.le_refl _) _⟩

theorem interval_w (x y : Nat) (w : World) :
    Calls Try.prog 26 #[.float .f64 x, .float .f64 y] w fun e w' => e = .returned (.agg #[.float .f64 x, .float .f64 y]) ∧ Below w.heap.size w w' := by
  go_enter Try.func26, Try.ntmps26
  go_wp2_with fail
  refine bodyPost_ret (v := .agg #[.float .f64 x, .float .f64 y]) (by simp [results, Try.results26, go_sem, *]) rfl ⟨rfl, ?_⟩
  repeat (first | exact Below.refl _ _ | assumption | refine Below.drew ?_ | refine bl_drewN ?_ _ | refine Below.setCell ?_ (by first | omega | (simp; done) | (simp; omega)) _ | refine Below.alloc ?_ (by first | omega | (simp; done) | (simp; omega)) _ | refine bl_next ?_ (by assumption) | refine bl_trans ?_ (by assumption) (by first | omega | (simp; done) | (simp; omega)))

end Go.Proofs.Ytacnclofbnafiab
