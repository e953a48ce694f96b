import Derived.Test.YtacnclofbnafiabGreatDoorRA
namespace Go.Proofs.YtacnclofbnafiabGreatDoor
open Go.RowKit Fl

/-- What loop 1 knows of its r. -/
def L1 (E : Int → Int) (s : Bool) (z : Nat) : Prop := z ≤ INF ∧ (z = INF → s = true ∧ ∃ mx, mx + 1 = INF ∧ E (V true mx) < 0)
def L2 (E : Int → Int) (s : Bool) (z : Nat) : Prop := z < INF ∧ 0 ≤ E (V s z)
theorem L1.below {E : Int → Int} {s : Bool} {z : Nat} (hz : z < INF) (h : E (V s z) < 0) : L1 E (blw s z).1 (blw s z).2 := by
  obtain ⟨h1, h2⟩ := blw_le s z hz
  refine ⟨h1, fun e => ?_⟩
  obtain ⟨g1, g2, g3⟩ := h2 e
  exact ⟨g1, z, g3, by rw [← g2]; exact h⟩
def ixN (v : Value) : Nat := match v with | .float _ x => (if x < 9223372036854775808 then 9218868437227405312 + x else 9218868437227405312 - (x - 9223372036854775808)) | _ => 0
end Go.Proofs.YtacnclofbnafiabGreatDoor
