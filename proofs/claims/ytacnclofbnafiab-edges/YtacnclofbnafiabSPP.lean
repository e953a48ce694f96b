import Derived.Test.YtacnclofbnafiabK5
import Derived.Test.YtacnclofbnafiabK6
import Derived.Test.YtacnclofbnafiabK7
import Derived.Test.YtacnclofbnafiabK8
import Derived.Test.YtacnclofbnafiabK10
import Derived.Test.YtacnclofbnafiabM1
namespace Go.Proofs.Ytacnclofbnafiab
open Go.RowKit Fl

theorem pneg {X1 X2 : Nat} {k l : Int} (hx : Key X1 k) (hy : Key X2 l) : ∀ w, Calls Try.prog 72 #[.agg #[.float .f64 X1, .float .f64 X2]] w fun e w' => e = .returned (.agg #[.float .f64 (B (-l)), .float .f64 (B (-k))]) ∧ Below w.heap.size w w' := neg_w X1 X2 _ _ hy.minus hx.minus
theorem neg_pl {k : Int} (h : Pl k) : Pl (-k) := by unfold Pl at *; omega
theorem Iv.neg {X1 X2 : Nat} {k l : Int} (h : Iv X1 X2 k l) : Iv (B (-l)) (B (-k)) (-l) (-k) :=
  ⟨Key.at (neg_pl h.y.pl), Key.at (neg_pl h.x.pl), by have := h.le; omega, by have := h.hi; omega, by have := h.lo; omega⟩
theorem tgt {x y : Nat} {k l : Int} (hx : Key x k) (hy : Key y l) (h : l < k) : (Ieee.double.order x y == some .gt) = true := by rw [hx.ogt hy h]; rfl
theorem tlt {x y : Nat} {k l : Int} (hx : Key x k) (hy : Key y l) (h : k < l) : (Ieee.double.order x y == some .lt) = true := by rw [hx.olt hy h]; rfl
theorem padd_ok (F : Ops) {X1 X2 Y1 Y2 : Nat} {k l k' l' : Int} (h : Iv X1 X2 k l) (h' : Iv Y1 Y2 k' l') : ∀ w, Calls Try.prog 59 #[.agg #[.float .f64 X1, .float .f64 X2], .agg #[.float .f64 Y1, .float .f64 Y2]] w fun e w' => e = .returned (.agg #[.float .f64 (B (F.aD k k')), .float .f64 (B (F.aU l l'))]) ∧ Below w.heap.size w w' :=
  add_ok_w X1 X2 Y1 Y2 _ _ _ _ (none_no h) (none_no h') (F.add_p h.x h'.x) (F.add_p h.y h'.y)
theorem psub_ok (F : Ops) {X1 X2 Y1 Y2 : Nat} {k l k' l' : Int} (h : Iv X1 X2 k l) (h' : Iv Y1 Y2 k' l') : ∀ w, Calls Try.prog 66 #[.agg #[.float .f64 X1, .float .f64 X2], .agg #[.float .f64 Y1, .float .f64 Y2]] w fun e w' => e = .returned (.agg #[.float .f64 (B (F.aD k (-l'))), .float .f64 (B (F.aU l (-k')))]) ∧ Below w.heap.size w w' :=
  sub_w X1 X2 Y1 Y2 _ _ _ _ (pneg h'.x h'.y) (padd_ok F h h'.neg)
end Go.Proofs.Ytacnclofbnafiab
