import Derived.Test.YtacnclofbnafiaaS3
import Derived.Test.YtacnclofbnafiaaK9l
namespace Go.Proofs.Ytacnclofbnafiaa
open Go.RowKit Fl

theorem lattice_any (X1 X2 Y1 Y2 : Nat) (hX1 : X1 < 18446744073709551616) (hX2 : X2 < 18446744073709551616) (hY1 : Y1 < 18446744073709551616) (hY2 : Y2 < 18446744073709551616) : ∀ w, Calls Try.prog 8 #[.float .f64 X1, .float .f64 X2, .float .f64 Y1, .float .f64 Y2] w fun e w' => e = .returned (.bool true) ∧ Below w.heap.size w w' := by
  obtain ⟨a, b, ha, hb, m1, m2⟩ := meet_pair X1 X2 Y1 Y2 hX1 hX2 hY1 hY2
  obtain ⟨c, d, hc, hd, m3, m4⟩ := hull_pair X1 X2 Y1 Y2 hX1 hX2 hY1 hY2
  exact lattice_w X1 X2 Y1 Y2 _ _ _ _ (iMeet_w X1 X2 Y1 Y2 _ _ m1) m2 (alike_any ha hb) (iHull_w X1 X2 Y1 Y2 _ _ m3) m4 (alike_any hc hd) (interval_w X1 X2) (interval_w Y1 Y2)
end Go.Proofs.Ytacnclofbnafiaa
