import Derived.Test.YtacnclofbnafiaaK9
import Derived.Test.YtacnclofbnafiaaB1
import Derived.Test.YtacnclofbnafiaaL1
namespace Go.Proofs.Ytacnclofbnafiaa
open Go.RowKit Fl

theorem at_n {w : World} {v : Value} {f : Nat → Nat} (h : Lst w v f) (k : Nat) (n : Int) (hn : n = (k : Int)) (hk : k ≤ 100) :
    Calls Try.prog 65 #[v, .int .i64 n] w fun e w' => e = .returned (.float .f64 (f k)) ∧ w' = w := by
  subst hn
  exact at_any h k (by omega)
end Go.Proofs.Ytacnclofbnafiaa
