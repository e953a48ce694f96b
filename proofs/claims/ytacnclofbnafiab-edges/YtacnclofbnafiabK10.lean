import Derived.Test.YtacnclofbnafiabK6
namespace Go.Proofs.Ytacnclofbnafiab
open Go.RowKit Fl

/-- A Neg that has a NaN. -/
def NegNan (X1 X2 : Nat) : Prop := ∀ w, Calls Try.prog 72 #[.agg #[.float .f64 X1, .float .f64 X2]] w fun e w' => ∃ a b, e = .returned (.agg #[.float .f64 a, .float .f64 b]) ∧ Below w.heap.size w w' ∧ NoIv a b ∧ a < 18446744073709551616 ∧ b < 18446744073709551616
end Go.Proofs.Ytacnclofbnafiab
