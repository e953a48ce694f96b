import Derived.Test.YtacnclofbnafiabGreatDoorRB
import Derived.Test.YtacnclofbnafiabGreatDoorB1
import Derived.Laws.Cover3
import Derived.Test.YtacnclofbnafiabGreatDoorQA
namespace Go.Proofs.YtacnclofbnafiabGreatDoor
open Go.RowKit Fl

end Go.Proofs.YtacnclofbnafiabGreatDoor

namespace Go.Proofs.YtacnclofbnafiabGreatDoor
open Go.RowKit Fl

theorem exk (be bd : Nat) (f : Nat → Int) (K : Int) (w : World) {x y : Nat} {k l : Int} (hx : Key x k) (hy : Key y l) (h1 : -(INF : Int) < k) (h2 : k < INF) (h3 : -(INF : Int) < l) (h4 : l < INF) (hX : OwnX be bd f w) (hf : ∀ j, -K ≤ f j ∧ f j ≤ K) (hK0 : 0 ≤ K) (hK : K ≤ 576460752303423488) :
    Calls Tryz.prog 47 #[.pointer (some ⟨be, 0, none⟩), .float .f64 x, .float .f64 y] w
      fun e w' => e = .returned (.tuple #[]) ∧ Below bd w w' ∧ ∃ f', OwnX be bd f' w' ∧ (∀ j, -(K + 1266637395197952) ≤ f' j ∧ f' j ≤ K + 1266637395197952) ∧ dv f' 190 = dv f 190 + Vk k * Vk l * 4096 := by
  obtain ⟨s, r, rfl, hr, _, e1⟩ := hx.fin h1 h2
  obtain ⟨t, q, rfl, hq, _, e2⟩ := hy.fin h3 h4
  rw [← e1, ← e2]
  exact exadd_any be bd f K w s t r q hX hf hK0 hK hr hq
end Go.Proofs.YtacnclofbnafiabGreatDoor
