import Derived.Test.YtacnclofbnafiabGreatDoorR5
import Derived.Test.YtacnclofbnafiabGreatDoorDA
import Derived.Test.YtacnclofbnafiabGreatDoorWA
namespace Go.Proofs.YtacnclofbnafiabGreatDoor
open Go.RowKit Fl

/-- What the document's rounding of finite numbers wants to know. -/
structure RefIn (op : Int) (X Y : Nat) (E : Int → Int) (D P : Nat) : Prop where
  anti : AntiI E
  side : ∀ s z, z < INF → ∀ w, Calls Tryz.prog 165 #[.int .i64 op, .float .f64 X, .float .f64 Y, .float .f64 (W s z)] w
      fun e w' => e = .returned (.int .i64 (E (V s z)).sign) ∧ Below w.heap.size w w'
  down : DownOk E D
  up : UpOk E P
/-- DOWN or UP. -/
def eiB (lower : Bool) (D P : Nat) : Nat := if lower then D else P
theorem inf_any (s : Bool) (z : Nat) (hz : z ≤ INF) (w : World) :
    Calls Tryz.prog 45 #[.float .f64 (W s z)] w fun e w' => e = .returned (.bool (decide (z = INF))) ∧ w' = w := by
  have h1 := order_high s z hz
  have h2 := order_low s z hz
  generalize decide (z = INF) = b at *
  clear hz
  cases s <;> cases b
  all_goals
    go_enter Tryz.func45, Tryz.ntmps45
    go_wp2
    go_ret
    exact ⟨rfl, rfl⟩
end Go.Proofs.YtacnclofbnafiabGreatDoor

namespace Go.Proofs.YtacnclofbnafiabGreatDoor
open Go.RowKit Fl

end Go.Proofs.YtacnclofbnafiabGreatDoor

namespace Go.Proofs.YtacnclofbnafiabGreatDoor
open Go.RowKit Fl

end Go.Proofs.YtacnclofbnafiabGreatDoor
