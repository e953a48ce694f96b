import Derived.Test.YtacnclofbnafiabYA
import Derived.Test.YtacnclofbnafiabX3
import Derived.Test.YtacnclofbnafiabX5
namespace Go.Proofs.Ytacnclofbnafiab
open Go.RowKit Fl

theorem Key.mone : Key 13830554455654793216 (-4607182418800017408) := ⟨true, 4607182418800017408, rfl, by rw [INF_eq]; omega, rfl⟩
theorem ne_mone {x : Nat} {k : Int} (h : Key x k) (h0 : 0 ≤ k) : (Ieee.double.order x 13830554455654793216 == some .eq) = false := by
  rw [h.order Key.mone, Int.compare_eq_gt.2 (by omega)]; rfl
theorem dfin_B {u v t : Int} (fu : Fin u) (fv : Fin v) (t0 : 0 ≤ t) (t1 : t < INF) : DFin (B u) (B v) (B t) u v t := ⟨Key.at fu.pl, Key.at fv.pl, Key.at (Fin.of t0 t1).pl, fu, fv, t0, t1⟩
end Go.Proofs.Ytacnclofbnafiab
