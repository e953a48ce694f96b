import Derived.Test.YtacnclofbnafiabGreatDoorCA
import Derived.Test.YtacnclofbnafiabGreatDoorK9
import Derived.Test.YtacnclofbnafiabGreatDoorYA
import Derived.Test.YtacnclofbnafiabGreatDoorX3
import Derived.Test.YtacnclofbnafiabGreatDoorEB
namespace Go.Proofs.YtacnclofbnafiabGreatDoor
open Go.RowKit Fl

end Go.Proofs.YtacnclofbnafiabGreatDoor

namespace Go.Proofs.YtacnclofbnafiabGreatDoor
open Go.RowKit Fl

theorem dfin_B {u v t : Int} (fu : Fin u) (fv : Fin v) (t0 : 0 ≤ t) (t1 : t < INF) : DFin (B u) (B v) (B t) u v t := ⟨Key.at fu.pl, Key.at fv.pl, Key.at (Fin.of t0 t1).pl, fu, fv, t0, t1⟩
end Go.Proofs.YtacnclofbnafiabGreatDoor

namespace Go.Proofs.YtacnclofbnafiabGreatDoor
open Go.RowKit Fl

theorem num_f (n : Int) (h : n.natAbs ≤ 9007199254740992) : ∃ x m, floatOfInt .f64 n = x ∧ Num x n m := by
  obtain ⟨m, h⟩ := num_int n h
  exact ⟨_, m, rfl, h⟩
/-- Is a number in a disc? -/
theorem rinDisc_any {p q a b r : Nat} {P Q : Int} (kp : Key p P) (fp : Fin P) (kq : Key q Q) (fq : Fin Q) (ha : a < 18446744073709551616) (hb : b < 18446744073709551616) (hr : r < 18446744073709551616) :
    ∃ v : Bool, (v = true → (Key r INF ∨ ∃ x y t, DFin a b r x y t ∧ inD P Q x y t)) ∧ ∀ w, Calls Tryz.prog 22 #[.float .f64 p, .float .f64 q, .agg #[.complex .f64 a b, .float .f64 r]] w fun e w' => e = .returned (.bool v) ∧ Below w.heap.size w w' := by
  rcases disc_cases a b r ha hb hr with ⟨x, y, t, h⟩ | h | h
  · obtain ⟨v, h1, h2⟩ := rinDisc_fin kp fp kq fq h
    exact ⟨v, fun e => .inr ⟨x, y, t, h, h1.1 e⟩, h2⟩
  · exact ⟨true, fun _ => .inl h, rinDisc_all h⟩
  · exact ⟨false, fun e => by simp at e, rinDisc_no ha hb h⟩
end Go.Proofs.YtacnclofbnafiabGreatDoor
