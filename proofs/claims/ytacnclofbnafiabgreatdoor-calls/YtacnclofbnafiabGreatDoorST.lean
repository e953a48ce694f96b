import Derived.Test.YtacnclofbnafiabGreatDoorBS
import Derived.Test.YtacnclofbnafiabGreatDoorAD
namespace Go.Proofs.YtacnclofbnafiabGreatDoor
open Go.RowKit Fl

set_option maxRecDepth 100000 in
theorem raw_eq (x : Nat) (w : World) : Calls Tryz.prog 17 #[.float .f64 x, .float .f64 x] w fun e w' => e = .returned (.bool true) ∧ w' = w := by
  go_enter Tryz.func17, Tryz.ntmps17
  go_wp2
  go_ret
  exact ⟨rfl, rfl⟩
end Go.Proofs.YtacnclofbnafiabGreatDoor
