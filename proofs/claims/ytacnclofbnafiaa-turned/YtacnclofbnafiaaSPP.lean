import Derived.Test.YtacnclofbnafiaaK5
import Derived.Test.YtacnclofbnafiaaK6
import Derived.Test.YtacnclofbnafiaaK7
import Derived.Test.YtacnclofbnafiaaK8
import Derived.Test.YtacnclofbnafiaaK10
import Derived.Test.YtacnclofbnafiaaM1
namespace Go.Proofs.Ytacnclofbnafiaa
open Go.RowKit Fl

theorem pempty : ∀ w, Calls Try.prog 137 #[] w fun e w' => e = .returned (.agg #[.float .f64 (B INF), .float .f64 (B (-INF))]) ∧ Below w.heap.size w w' := empty_w _ _ infp infn
theorem pall : ∀ w, Calls Try.prog 142 #[] w fun e w' => e = .returned (.agg #[.float .f64 (B (-INF)), .float .f64 (B INF)]) ∧ Below w.heap.size w w' := all_w _ _ infp infn
theorem neg_pl {k : Int} (h : Pl k) : Pl (-k) := by unfold Pl at *; omega
theorem Iv.neg {X1 X2 : Nat} {k l : Int} (h : Iv X1 X2 k l) : Iv (B (-l)) (B (-k)) (-l) (-k) :=
  ⟨Key.at (neg_pl h.y.pl), Key.at (neg_pl h.x.pl), by have := h.le; omega, by have := h.hi; omega, by have := h.lo; omega⟩
theorem tgt {x y : Nat} {k l : Int} (hx : Key x k) (hy : Key y l) (h : l < k) : (Ieee.double.order x y == some .gt) = true := by rw [hx.ogt hy h]; rfl
theorem tlt {x y : Nat} {k l : Int} (hx : Key x k) (hy : Key y l) (h : k < l) : (Ieee.double.order x y == some .lt) = true := by rw [hx.olt hy h]; rfl
theorem ngt {x y : Nat} {k l : Int} (hx : Key x k) (hy : Key y l) (h : k ≤ l) : (Ieee.double.order x y == some .gt) = false := by
  rw [hx.order hy]
  have : compare k l ≠ .gt := by rw [Ne, Int.compare_eq_gt]; omega
  simp [this]
theorem nlt {x y : Nat} {k l : Int} (hx : Key x k) (hy : Key y l) (h : l ≤ k) : (Ieee.double.order x y == some .lt) = false := by
  rw [hx.order hy]
  have : compare k l ≠ .lt := by rw [Ne, Int.compare_eq_lt]; omega
  simp [this]
theorem nle {x y : Nat} {k l : Int} (hx : Key x k) (hy : Key y l) (h : l < k) : (Ieee.double.order x y == some .lt || Ieee.double.order x y == some .eq) = false := by
  rw [hx.ogt hy h]; rfl
theorem padd_ok (F : Ops) {X1 X2 Y1 Y2 : Nat} {k l k' l' : Int} (h : Iv X1 X2 k l) (h' : Iv Y1 Y2 k' l') : ∀ w, Calls Try.prog 96 #[.agg #[.float .f64 X1, .float .f64 X2], .agg #[.float .f64 Y1, .float .f64 Y2]] w fun e w' => e = .returned (.agg #[.float .f64 (B (F.aD k k')), .float .f64 (B (F.aU l l'))]) ∧ Below w.heap.size w w' :=
  add_ok_w X1 X2 Y1 Y2 _ _ _ _ (none_no h) (none_no h') (F.add_p h.x h'.x) (F.add_p h.y h'.y)
end Go.Proofs.Ytacnclofbnafiaa
