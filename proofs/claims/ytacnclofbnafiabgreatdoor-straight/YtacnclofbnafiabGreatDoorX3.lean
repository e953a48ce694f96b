import Derived.Test.YtacnclofbnafiabGreatDoorXA
import Derived.Test.YtacnclofbnafiabGreatDoorQB
namespace Go.Proofs.YtacnclofbnafiabGreatDoor
open Go.RowKit Fl

theorem lt0 {x : Nat} {k : Int} (h : Key x k) : (Ieee.double.order x 0 == some .lt) = decide (k < 0) := by
  rw [ord0 h]
  by_cases c : k < 0
  · rw [Int.compare_eq_lt.2 c]; simp [c]
  · have : compare k 0 ≠ .lt := by rw [Ne, Int.compare_eq_lt]; exact c
    simp [this, c]
/-- Is the number (P, Q) in the disc about (A, C) with the radius R? -/
def inD (P Q A C R : Int) : Prop := (Vk P - Vk A) * (Vk P - Vk A) + (Vk Q - Vk C) * (Vk Q - Vk C) ≤ Vk R * Vk R
end Go.Proofs.YtacnclofbnafiabGreatDoor
