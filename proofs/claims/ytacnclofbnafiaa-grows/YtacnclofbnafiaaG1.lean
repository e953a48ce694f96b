import Derived.Test.YtacnclofbnafiaaK7
import Derived.Test.YtacnclofbnafiaaK7b
import Derived.Test.YtacnclofbnafiaaK8
namespace Go.Proofs.Ytacnclofbnafiaa
open Go.RowKit Fl

theorem within_no_w (X1 X2 Y1 Y2 : Nat)
    (nx : ∀ w, Calls Try.prog 54 #[.agg #[.float .f64 X1, .float .f64 X2]] w fun e w' => e = .returned (.bool true) ∧ Below w.heap.size w w') (w : World) :
    Calls Try.prog 56 #[.agg #[.float .f64 X1, .float .f64 X2], .agg #[.float .f64 Y1, .float .f64 Y2]] w fun e w' => e = .returned (.bool true) ∧ Below w.heap.size w w' := by
  go_enter Try.func56, Try.ntmps56
  go_wp2_with fail
  go_at_call 54
  refine (nx _).mono ?_
  rintro e w1 ⟨rfl, hb1⟩
  have s1 := hb1.size
  try simp at s1
  have l1_0 : w.heap.size < w1.heap.size := (by omega)
  have c1_1_0 : w1.cell? ⟨w.heap.size, 0, none⟩ = some (.float .f64 X1) := bkeep hb1 (by first | assumption | (simp [go_sem]; done) | (simp [*]; done) | (simp [go_sem, *]; done) | exact bkeep (bl_alloc (Below.refl _ _)) (by assumption) (by first | omega | (simp; done) | (simp; omega))) (by first | omega | (simp; done) | (simp; omega))
  have c1_2_1 : w1.cell? ⟨w.heap.size, 1, none⟩ = some (.float .f64 X2) := bkeep hb1 (by first | assumption | (simp [go_sem]; done) | (simp [*]; done) | (simp [go_sem, *]; done) | exact bkeep (bl_alloc (Below.refl _ _)) (by assumption) (by first | omega | (simp; done) | (simp; omega))) (by first | omega | (simp; done) | (simp; omega))
  have l1_3 : w.heap.size + 1 < w1.heap.size := (by omega)
  have c1_4_0 : w1.cell? ⟨w.heap.size + 1, 0, none⟩ = some (.float .f64 Y1) := bkeep hb1 (by first | assumption | (simp [go_sem]; done) | (simp [*]; done) | (simp [go_sem, *]; done) | exact bkeep (bl_alloc (Below.refl _ _)) (by assumption) (by first | omega | (simp; done) | (simp; omega))) (by first | omega | (simp; done) | (simp; omega))
  have c1_5_1 : w1.cell? ⟨w.heap.size + 1, 1, none⟩ = some (.float .f64 Y2) := bkeep hb1 (by first | assumption | (simp [go_sem]; done) | (simp [*]; done) | (simp [go_sem, *]; done) | exact bkeep (bl_alloc (Below.refl _ _)) (by assumption) (by first | omega | (simp; done) | (simp; omega))) (by first | omega | (simp; done) | (simp; omega))
  go_wp2_with fail
  go_ret
  refine ⟨rfl, ?_⟩
  repeat (first | exact Below.refl _ _ | assumption | refine Below.drew ?_ | refine bl_drewN ?_ _ | refine Below.setCell ?_ (by first | omega | (simp; done) | (simp; omega)) _ | refine Below.alloc ?_ (by first | omega | (simp; done) | (simp; omega)) _ | refine bl_next ?_ (by assumption) | refine bl_trans ?_ (by assumption) (by first | omega | (simp; done) | (simp; omega)))

theorem within_ok_w (X1 X2 Y1 Y2 : Nat)
    (nx : ∀ w, Calls Try.prog 54 #[.agg #[.float .f64 X1, .float .f64 X2]] w fun e w' => e = .returned (.bool false) ∧ Below w.heap.size w w')
    (o1 : (Ieee.double.order Y1 X1 == some .lt || Ieee.double.order Y1 X1 == some .eq) = true)
    (o2 : (Ieee.double.order X2 Y2 == some .lt || Ieee.double.order X2 Y2 == some .eq) = true) (w : World) :
    Calls Try.prog 56 #[.agg #[.float .f64 X1, .float .f64 X2], .agg #[.float .f64 Y1, .float .f64 Y2]] w fun e w' => e = .returned (.bool true) ∧ Below w.heap.size w w' := by
  go_enter Try.func56, Try.ntmps56
  go_wp2_with fail
  go_at_call 54
  refine (nx _).mono ?_
  rintro e w1 ⟨rfl, hb1⟩
  have s1 := hb1.size
  try simp at s1
  have l1_0 : w.heap.size < w1.heap.size := (by omega)
  have c1_1_0 : w1.cell? ⟨w.heap.size, 0, none⟩ = some (.float .f64 X1) := bkeep hb1 (by first | assumption | (simp [go_sem]; done) | (simp [*]; done) | (simp [go_sem, *]; done) | exact bkeep (bl_alloc (Below.refl _ _)) (by assumption) (by first | omega | (simp; done) | (simp; omega))) (by first | omega | (simp; done) | (simp; omega))
  have c1_2_1 : w1.cell? ⟨w.heap.size, 1, none⟩ = some (.float .f64 X2) := bkeep hb1 (by first | assumption | (simp [go_sem]; done) | (simp [*]; done) | (simp [go_sem, *]; done) | exact bkeep (bl_alloc (Below.refl _ _)) (by assumption) (by first | omega | (simp; done) | (simp; omega))) (by first | omega | (simp; done) | (simp; omega))
  have l1_3 : w.heap.size + 1 < w1.heap.size := (by omega)
  have c1_4_0 : w1.cell? ⟨w.heap.size + 1, 0, none⟩ = some (.float .f64 Y1) := bkeep hb1 (by first | assumption | (simp [go_sem]; done) | (simp [*]; done) | (simp [go_sem, *]; done) | exact bkeep (bl_alloc (Below.refl _ _)) (by assumption) (by first | omega | (simp; done) | (simp; omega))) (by first | omega | (simp; done) | (simp; omega))
  have c1_5_1 : w1.cell? ⟨w.heap.size + 1, 1, none⟩ = some (.float .f64 Y2) := bkeep hb1 (by first | assumption | (simp [go_sem]; done) | (simp [*]; done) | (simp [go_sem, *]; done) | exact bkeep (bl_alloc (Below.refl _ _)) (by assumption) (by first | omega | (simp; done) | (simp; omega))) (by first | omega | (simp; done) | (simp; omega))
  go_wp2_with fail
  go_ret
  refine ⟨rfl, ?_⟩
  repeat (first | exact Below.refl _ _ | assumption | refine Below.drew ?_ | refine bl_drewN ?_ _ | refine Below.setCell ?_ (by first | omega | (simp; done) | (simp; omega)) _ | refine Below.alloc ?_ (by first | omega | (simp; done) | (simp; omega)) _ | refine bl_next ?_ (by assumption) | refine bl_trans ?_ (by assumption) (by first | omega | (simp; done) | (simp; omega)))

theorem undrew {v v' : World} (h : Below v.drew.heap.size v.drew v') : Below v.heap.size v v' := ⟨h.os, h.tape, h.output, h.size, h.block⟩
theorem cells16 (w : World) (f g : Nat → Nat) (t : TypeId) (j : Nat) (hj : j < 8) :
    (w.alloc (.cells #[.float .f64 (f 0), .float .f64 (g 0), .float .f64 (f 1), .float .f64 (g 1), .float .f64 (f 2), .float .f64 (g 2), .float .f64 (f 3), .float .f64 (g 3), .float .f64 (f 4), .float .f64 (g 4), .float .f64 (f 5), .float .f64 (g 5), .float .f64 (f 6), .float .f64 (g 6), .float .f64 (f 7), .float .f64 (g 7)] t)).cell? ⟨w.heap.size, j * 2, none⟩ = some (.float .f64 (f j)) ∧ (w.alloc (.cells #[.float .f64 (f 0), .float .f64 (g 0), .float .f64 (f 1), .float .f64 (g 1), .float .f64 (f 2), .float .f64 (g 2), .float .f64 (f 3), .float .f64 (g 3), .float .f64 (f 4), .float .f64 (g 4), .float .f64 (f 5), .float .f64 (g 5), .float .f64 (f 6), .float .f64 (g 6), .float .f64 (f 7), .float .f64 (g 7)] t)).cell? ⟨w.heap.size, j * 2 + 1, none⟩ = some (.float .f64 (g j)) := by
  have e : ∀ o : Obj, (w.alloc o).heap[w.heap.size]? = some o := fun o => by
    show (w.heap.push o)[w.heap.size]? = some o
    simp
  have : j = 0 ∨ j = 1 ∨ j = 2 ∨ j = 3 ∨ j = 4 ∨ j = 5 ∨ j = 6 ∨ j = 7 := by omega
  unfold World.cell?
  rw [e]
  rcases this with rfl | rfl | rfl | rfl | rfl | rfl | rfl | rfl <;> exact ⟨rfl, rfl⟩

end Go.Proofs.Ytacnclofbnafiaa
