import Derived.Test.YtacnclofbnafiabR1
import Derived.BigRegion
namespace Go.Proofs.Ytacnclofbnafiab
open Go.RowKit Fl

/-- What the first k of the three digits are worth. -/
def dgs (m k : Nat) : Int := dv (dg m) k
/-- Products of ints, behind a name. -/
def mulI (x y : Int) : Int := IntKind.i64.wrap (x * y)
theorem mulI_law (t : TypeId) (x y : Int) : binOp .mul t (.int .i64 x) (.int .i64 y) = pure (.int .i64 (mulI x y)) := by
  rw [binOp_mul]; rfl
attribute [local go_sem ↓] mulI_law
end Go.Proofs.Ytacnclofbnafiab
