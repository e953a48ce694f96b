import Derived.Test.YtacnclofbnafiabGreatDoorK9
import Derived.Test.YtacnclofbnafiabGreatDoorB1
import Derived.Test.YtacnclofbnafiabGreatDoorL1
namespace Go.Proofs.YtacnclofbnafiabGreatDoor
open Go.RowKit Fl

theorem at_n {w : World} {v : Value} {f : Nat → Nat} (h : Lst w v f) (k : Nat) (n : Int) (hn : n = (k : Int)) (hk : k ≤ 100) :
    Calls Tryz.prog 20 #[v, .int .i64 n] w fun e w' => e = .returned (.float .f64 (f k)) ∧ w' = w := by
  subst hn
  exact at_any h k (by omega)
end Go.Proofs.YtacnclofbnafiabGreatDoor
