import Derived.Test.YtacnclofbnafiabGreatDoorK9
import Derived.Test.YtacnclofbnafiabGreatDoorB1
import Derived.Test.YtacnclofbnafiabGreatDoorL1
namespace Go.Proofs.YtacnclofbnafiabGreatDoor
open Go.RowKit Fl

theorem at_n {w : World} {v : Value} {f : Nat → Nat} (h : Lst w v f) (k : Nat) (n : Int) (hn : n = (k : Int)) (hk : k ≤ 100) :
    Calls Tryz.prog 20 #[v, .int .i64 n] w fun e w' => e = .returned (.float .f64 (f k)) ∧ w' = w := by
  subst hn
  exact at_any h k (by omega)
set_option maxHeartbeats 1000000 in
theorem alikeBox_w (X1 X2 X3 X4 : Nat)
    (m1 : ∀ w, Calls Tryz.prog 43 #[.agg #[.float .f64 X1, .float .f64 X2], .agg #[.float .f64 X1, .float .f64 X2]] w fun e w' => e = .returned (.bool true) ∧ Below w.heap.size w w')
    (m2 : ∀ w, Calls Tryz.prog 43 #[.agg #[.float .f64 X3, .float .f64 X4], .agg #[.float .f64 X3, .float .f64 X4]] w fun e w' => e = .returned (.bool true) ∧ Below w.heap.size w w') (w : World) :
    Calls Tryz.prog 18 #[.agg #[.float .f64 X1, .float .f64 X2, .float .f64 X3, .float .f64 X4], .agg #[.float .f64 X1, .float .f64 X2, .float .f64 X3, .float .f64 X4]] w fun e w' => e = .returned (.bool true) ∧ Below w.heap.size w w' := by
  go_enter Tryz.func18, Tryz.ntmps18
  go_wp2_with fail
  obtain ⟨w0, hw0⟩ : ∃ v, v = ((w.alloc (.cells #[.float .f64 X1, .float .f64 X2, .float .f64 X3, .float .f64 X4] 39)).alloc (.cells #[.float .f64 X1, .float .f64 X2, .float .f64 X3, .float .f64 X4] 39)) := ⟨_, rfl⟩
  rw [← hw0]
  have c00 : w0.cell? ⟨w.heap.size, 0, none⟩ = some (.float .f64 X1) := by simp [hw0, go_sem]
  have c01 : w0.cell? ⟨w.heap.size, 1, none⟩ = some (.float .f64 X2) := by simp [hw0, go_sem]
  have c02 : w0.cell? ⟨w.heap.size, 2, none⟩ = some (.float .f64 X3) := by simp [hw0, go_sem]
  have c03 : w0.cell? ⟨w.heap.size, 3, none⟩ = some (.float .f64 X4) := by simp [hw0, go_sem]
  have c10 : w0.cell? ⟨w.heap.size + 1, 0, none⟩ = some (.float .f64 X1) := by simp [hw0, go_sem]
  have c11 : w0.cell? ⟨w.heap.size + 1, 1, none⟩ = some (.float .f64 X2) := by simp [hw0, go_sem]
  have c12 : w0.cell? ⟨w.heap.size + 1, 2, none⟩ = some (.float .f64 X3) := by simp [hw0, go_sem]
  have c13 : w0.cell? ⟨w.heap.size + 1, 3, none⟩ = some (.float .f64 X4) := by simp [hw0, go_sem]
  have s0 : w.heap.size + 1 + 1 ≤ w0.heap.size := by simp [hw0]
  have hB0 : Below w.heap.size w w0 := by
    rw [hw0]
    repeat (with_reducible first | exact Below.refl _ _ | assumption | refine Below.drew ?_ | refine bl_drewN ?_ _ | refine Below.setCell ?_ (by first | omega | (simp; done) | (simp; omega)) _ | refine Below.alloc ?_ (by first | omega | (simp; done) | (simp; omega)) _ | refine bl_next ?_ (by assumption) | refine bl_trans ?_ (by assumption) (by first | omega | (simp; done) | (simp; omega)))
  clear hw0
  go_at_call 43
  refine (m1 _).mono ?_
  rintro e w1 ⟨rfl, hb1⟩
  have s1 := hb1.size
  try simp at s1
  replace c00 := bkeep2 hb1 c00
  replace c01 := bkeep2 hb1 c01
  replace c02 := bkeep2 hb1 c02
  replace c03 := bkeep2 hb1 c03
  replace c10 := bkeep2 hb1 c10
  replace c11 := bkeep2 hb1 c11
  replace c12 := bkeep2 hb1 c12
  replace c13 := bkeep2 hb1 c13
  have l0 : w.heap.size < w1.heap.size := cell_lt c00
  have l1 : w.heap.size + 1 < w1.heap.size := cell_lt c10
  go_wp2_with fail
  go_at_call 43
  refine (m2 _).mono ?_
  rintro e w2 ⟨rfl, hb2⟩
  have s2 := hb2.size
  try simp at s2
  replace c00 := bkeep2 hb2 c00
  replace c01 := bkeep2 hb2 c01
  replace c02 := bkeep2 hb2 c02
  replace c03 := bkeep2 hb2 c03
  replace c10 := bkeep2 hb2 c10
  replace c11 := bkeep2 hb2 c11
  replace c12 := bkeep2 hb2 c12
  replace c13 := bkeep2 hb2 c13
  have l0 : w.heap.size < w2.heap.size := cell_lt c00
  have l1 : w.heap.size + 1 < w2.heap.size := cell_lt c10
  go_wp2_with fail
  go_ret
  refine ⟨rfl, ?_⟩
  repeat (with_reducible first | exact Below.refl _ _ | assumption | refine Below.drew ?_ | refine bl_drewN ?_ _ | refine Below.setCell ?_ (by first | omega | (simp; done) | (simp; omega)) _ | refine Below.alloc ?_ (by first | omega | (simp; done) | (simp; omega)) _ | refine bl_next ?_ (by assumption) | refine bl_trans ?_ (by assumption) (by first | omega | (simp; done) | (simp; omega)))

end Go.Proofs.YtacnclofbnafiabGreatDoor
