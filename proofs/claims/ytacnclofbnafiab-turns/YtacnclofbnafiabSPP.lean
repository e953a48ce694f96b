import Derived.Test.YtacnclofbnafiabK5
import Derived.Test.YtacnclofbnafiabK6
import Derived.Test.YtacnclofbnafiabK7
import Derived.Test.YtacnclofbnafiabK8
import Derived.Test.YtacnclofbnafiabK10
import Derived.Test.YtacnclofbnafiabM1
namespace Go.Proofs.Ytacnclofbnafiab
open Go.RowKit Fl

theorem pempty : ∀ w, Calls Try.prog 56 #[] w fun e w' => e = .returned (.agg #[.float .f64 (B INF), .float .f64 (B (-INF))]) ∧ Below w.heap.size w w' := empty_w _ _ infp infn
theorem pall : ∀ w, Calls Try.prog 57 #[] w fun e w' => e = .returned (.agg #[.float .f64 (B (-INF)), .float .f64 (B INF)]) ∧ Below w.heap.size w w' := all_w _ _ infp infn
theorem emp_no : NoIv (B INF) (B (-INF)) := by
  intro k l h
  have hI := INF_pos
  have h1 := h.x.unique (Key.of_B (by omega) (Int.le_refl _))
  have h2 := h.y.unique (Key.of_B (Int.le_refl _) (by omega))
  have := h.le
  omega
theorem emp1 : B INF < 18446744073709551616 := (Key.of_B (by omega) (Int.le_refl _)).lt
theorem emp2 : B (-INF) < 18446744073709551616 := (Key.of_B (Int.le_refl _) (by omega)).lt
theorem neg_pl {k : Int} (h : Pl k) : Pl (-k) := by unfold Pl at *; omega
theorem Iv.neg {X1 X2 : Nat} {k l : Int} (h : Iv X1 X2 k l) : Iv (B (-l)) (B (-k)) (-l) (-k) :=
  ⟨Key.at (neg_pl h.y.pl), Key.at (neg_pl h.x.pl), by have := h.le; omega, by have := h.hi; omega, by have := h.lo; omega⟩
theorem padd_ok (F : Ops) {X1 X2 Y1 Y2 : Nat} {k l k' l' : Int} (h : Iv X1 X2 k l) (h' : Iv Y1 Y2 k' l') : ∀ w, Calls Try.prog 59 #[.agg #[.float .f64 X1, .float .f64 X2], .agg #[.float .f64 Y1, .float .f64 Y2]] w fun e w' => e = .returned (.agg #[.float .f64 (B (F.aD k k')), .float .f64 (B (F.aU l l'))]) ∧ Below w.heap.size w w' :=
  add_ok_w X1 X2 Y1 Y2 _ _ _ _ (none_no h) (none_no h') (F.add_p h.x h'.x) (F.add_p h.y h'.y)
end Go.Proofs.Ytacnclofbnafiab
