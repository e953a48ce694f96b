import Derived.Test.YtacnclofbnafiaaG1
import Derived.BigQuiet
import Derived.Deep.QuietTactic
namespace Go.Proofs.Ytacnclofbnafiaa
open Go.RowKit Fl

set_option maxRecDepth 100000 in
set_option maxHeartbeats 8000000 in
theorem grows_w (X1 X2 Y1 Y2 Z1 Z2 ga gb ma mb : Nat) (sA sB tA tB : Nat → Nat)
    (ix : ∀ w, Calls Try.prog 32 #[.float .f64 X1, .float .f64 X2] w fun e w' => e = .returned (.agg #[.float .f64 X1, .float .f64 X2]) ∧ Below w.heap.size w w')
    (iy : ∀ w, Calls Try.prog 32 #[.float .f64 Y1, .float .f64 Y2] w fun e w' => e = .returned (.agg #[.float .f64 Y1, .float .f64 Y2]) ∧ Below w.heap.size w w')
    (iz : ∀ w, Calls Try.prog 32 #[.float .f64 Z1, .float .f64 Z2] w fun e w' => e = .returned (.agg #[.float .f64 Z1, .float .f64 Z2]) ∧ Below w.heap.size w w')
    (hh : ∀ w, Calls Try.prog 48 #[.agg #[.float .f64 X1, .float .f64 X2], .agg #[.float .f64 Z1, .float .f64 Z2]] w fun e w' => e = .returned (.agg #[.float .f64 ga, .float .f64 gb]) ∧ Below w.heap.size w w')
    (hm : ∀ w, Calls Try.prog 46 #[.agg #[.float .f64 X1, .float .f64 X2], .agg #[.float .f64 Z1, .float .f64 Z2]] w fun e w' => e = .returned (.agg #[.float .f64 ma, .float .f64 mb]) ∧ Below w.heap.size w w')
    (wa : ∀ w, Calls Try.prog 56 #[.agg #[.float .f64 X1, .float .f64 X2], .agg #[.float .f64 ga, .float .f64 gb]] w fun e w' => e = .returned (.bool true) ∧ Below w.heap.size w w')
    (wb : ∀ w, Calls Try.prog 56 #[.agg #[.float .f64 Z1, .float .f64 Z2], .agg #[.float .f64 ga, .float .f64 gb]] w fun e w' => e = .returned (.bool true) ∧ Below w.heap.size w w')
    (wc : ∀ w, Calls Try.prog 56 #[.agg #[.float .f64 ma, .float .f64 mb], .agg #[.float .f64 X1, .float .f64 X2]] w fun e w' => e = .returned (.bool true) ∧ Below w.heap.size w w')
    (wd : ∀ w, Calls Try.prog 56 #[.agg #[.float .f64 ma, .float .f64 mb], .agg #[.float .f64 Z1, .float .f64 Z2]] w fun e w' => e = .returned (.bool true) ∧ Below w.heap.size w w')
    (c0 : ∀ w, Calls Try.prog 33 #[.agg #[.float .f64 X1, .float .f64 X2], .agg #[.float .f64 Y1, .float .f64 Y2]] w fun e w' => e = .returned (.agg #[.float .f64 (sA 0), .float .f64 (sB 0)]) ∧ Below w.heap.size w w')
    (e0 : ∀ w, Calls Try.prog 33 #[.agg #[.float .f64 ga, .float .f64 gb], .agg #[.float .f64 Y1, .float .f64 Y2]] w fun e w' => e = .returned (.agg #[.float .f64 (tA 0), .float .f64 (tB 0)]) ∧ Below w.heap.size w w')
    (c1 : ∀ w, Calls Try.prog 36 #[.agg #[.float .f64 X1, .float .f64 X2], .agg #[.float .f64 Y1, .float .f64 Y2]] w fun e w' => e = .returned (.agg #[.float .f64 (sA 1), .float .f64 (sB 1)]) ∧ Below w.heap.size w w')
    (e1 : ∀ w, Calls Try.prog 36 #[.agg #[.float .f64 ga, .float .f64 gb], .agg #[.float .f64 Y1, .float .f64 Y2]] w fun e w' => e = .returned (.agg #[.float .f64 (tA 1), .float .f64 (tB 1)]) ∧ Below w.heap.size w w')
    (c2 : ∀ w, Calls Try.prog 36 #[.agg #[.float .f64 Y1, .float .f64 Y2], .agg #[.float .f64 X1, .float .f64 X2]] w fun e w' => e = .returned (.agg #[.float .f64 (sA 2), .float .f64 (sB 2)]) ∧ Below w.heap.size w w')
    (e2 : ∀ w, Calls Try.prog 36 #[.agg #[.float .f64 Y1, .float .f64 Y2], .agg #[.float .f64 ga, .float .f64 gb]] w fun e w' => e = .returned (.agg #[.float .f64 (tA 2), .float .f64 (tB 2)]) ∧ Below w.heap.size w w')
    (c3 : ∀ w, Calls Try.prog 38 #[.agg #[.float .f64 X1, .float .f64 X2], .agg #[.float .f64 Y1, .float .f64 Y2]] w fun e w' => e = .returned (.agg #[.float .f64 (sA 3), .float .f64 (sB 3)]) ∧ Below w.heap.size w w')
    (e3 : ∀ w, Calls Try.prog 38 #[.agg #[.float .f64 ga, .float .f64 gb], .agg #[.float .f64 Y1, .float .f64 Y2]] w fun e w' => e = .returned (.agg #[.float .f64 (tA 3), .float .f64 (tB 3)]) ∧ Below w.heap.size w w')
    (c4 : ∀ w, Calls Try.prog 40 #[.agg #[.float .f64 X1, .float .f64 X2], .agg #[.float .f64 Y1, .float .f64 Y2]] w fun e w' => e = .returned (.agg #[.float .f64 (sA 4), .float .f64 (sB 4)]) ∧ Below w.heap.size w w')
    (e4 : ∀ w, Calls Try.prog 40 #[.agg #[.float .f64 ga, .float .f64 gb], .agg #[.float .f64 Y1, .float .f64 Y2]] w fun e w' => e = .returned (.agg #[.float .f64 (tA 4), .float .f64 (tB 4)]) ∧ Below w.heap.size w w')
    (c5 : ∀ w, Calls Try.prog 40 #[.agg #[.float .f64 Y1, .float .f64 Y2], .agg #[.float .f64 X1, .float .f64 X2]] w fun e w' => e = .returned (.agg #[.float .f64 (sA 5), .float .f64 (sB 5)]) ∧ Below w.heap.size w w')
    (e5 : ∀ w, Calls Try.prog 40 #[.agg #[.float .f64 Y1, .float .f64 Y2], .agg #[.float .f64 ga, .float .f64 gb]] w fun e w' => e = .returned (.agg #[.float .f64 (tA 5), .float .f64 (tB 5)]) ∧ Below w.heap.size w w')
    (c6 : ∀ w, Calls Try.prog 42 #[.agg #[.float .f64 X1, .float .f64 X2]] w fun e w' => e = .returned (.agg #[.float .f64 (sA 6), .float .f64 (sB 6)]) ∧ Below w.heap.size w w')
    (e6 : ∀ w, Calls Try.prog 42 #[.agg #[.float .f64 ga, .float .f64 gb]] w fun e w' => e = .returned (.agg #[.float .f64 (tA 6), .float .f64 (tB 6)]) ∧ Below w.heap.size w w')
    (c7 : ∀ w, Calls Try.prog 44 #[.agg #[.float .f64 X1, .float .f64 X2]] w fun e w' => e = .returned (.agg #[.float .f64 (sA 7), .float .f64 (sB 7)]) ∧ Below w.heap.size w w')
    (e7 : ∀ w, Calls Try.prog 44 #[.agg #[.float .f64 ga, .float .f64 gb]] w fun e w' => e = .returned (.agg #[.float .f64 (tA 7), .float .f64 (tB 7)]) ∧ Below w.heap.size w w')
    (wi : ∀ j, j < 8 → ∀ w, Calls Try.prog 56 #[.agg #[.float .f64 (sA j), .float .f64 (sB j)], .agg #[.float .f64 (tA j), .float .f64 (tB j)]] w fun e w' => e = .returned (.bool true) ∧ Below w.heap.size w w') (w : World) :
    Calls Try.prog 10 #[.float .f64 X1, .float .f64 X2, .float .f64 Y1, .float .f64 Y2, .float .f64 Z1, .float .f64 Z2] w fun e w' => e = .returned (.bool true) ∧ Below w.heap.size w w' := by
  go_enter Try.func10, Try.ntmps10
  go_wp2_with fail
  go_at_call 32
  refine (ix _).mono ?_
  rintro e w1 ⟨rfl, hb1⟩
  have s1 := hb1.size
  try simp at s1
  go_wp2_with fail
  go_at_call 32
  refine (iy _).mono ?_
  rintro e w2 ⟨rfl, hb2⟩
  have s2 := hb2.size
  try simp at s2
  have l2_0 : w1.heap.size < w2.heap.size := (by omega)
  have c2_1_0 : w2.cell? ⟨w1.heap.size, 0, none⟩ = some (.float .f64 X1) := bkeep hb2 (by first | assumption | (simp [go_sem]; done) | (simp [*]; done) | (simp [go_sem, *]; done) | exact bkeep (bl_alloc (Below.refl _ _)) (by assumption) (by first | omega | (simp; done) | (simp; omega))) (by first | omega | (simp; done) | (simp; omega))
  have c2_2_1 : w2.cell? ⟨w1.heap.size, 1, none⟩ = some (.float .f64 X2) := bkeep hb2 (by first | assumption | (simp [go_sem]; done) | (simp [*]; done) | (simp [go_sem, *]; done) | exact bkeep (bl_alloc (Below.refl _ _)) (by assumption) (by first | omega | (simp; done) | (simp; omega))) (by first | omega | (simp; done) | (simp; omega))
  go_wp2_with fail
  go_at_call 32
  refine (iz _).mono ?_
  rintro e w3 ⟨rfl, hb3⟩
  have s3 := hb3.size
  try simp at s3
  have l3_0 : w1.heap.size < w3.heap.size := (by omega)
  have c3_1_0 : w3.cell? ⟨w1.heap.size, 0, none⟩ = some (.float .f64 X1) := bkeep hb3 (by first | assumption | (simp [go_sem]; done) | (simp [*]; done) | (simp [go_sem, *]; done) | exact bkeep (bl_alloc (Below.refl _ _)) (by assumption) (by first | omega | (simp; done) | (simp; omega))) (by first | omega | (simp; done) | (simp; omega))
  have c3_2_1 : w3.cell? ⟨w1.heap.size, 1, none⟩ = some (.float .f64 X2) := bkeep hb3 (by first | assumption | (simp [go_sem]; done) | (simp [*]; done) | (simp [go_sem, *]; done) | exact bkeep (bl_alloc (Below.refl _ _)) (by assumption) (by first | omega | (simp; done) | (simp; omega))) (by first | omega | (simp; done) | (simp; omega))
  have l3_3 : w2.heap.size < w3.heap.size := (by omega)
  have c3_4_0 : w3.cell? ⟨w2.heap.size, 0, none⟩ = some (.float .f64 Y1) := bkeep hb3 (by first | assumption | (simp [go_sem]; done) | (simp [*]; done) | (simp [go_sem, *]; done) | exact bkeep (bl_alloc (Below.refl _ _)) (by assumption) (by first | omega | (simp; done) | (simp; omega))) (by first | omega | (simp; done) | (simp; omega))
  have c3_5_1 : w3.cell? ⟨w2.heap.size, 1, none⟩ = some (.float .f64 Y2) := bkeep hb3 (by first | assumption | (simp [go_sem]; done) | (simp [*]; done) | (simp [go_sem, *]; done) | exact bkeep (bl_alloc (Below.refl _ _)) (by assumption) (by first | omega | (simp; done) | (simp; omega))) (by first | omega | (simp; done) | (simp; omega))
  clear l2_0 c2_1_0 c2_2_1
  go_wp2_with fail
  go_at_call 48
  refine (hh _).mono ?_
  rintro e w4 ⟨rfl, hb4⟩
  have s4 := hb4.size
  try simp at s4
  have l4_0 : w1.heap.size < w4.heap.size := (by omega)
  have c4_1_0 : w4.cell? ⟨w1.heap.size, 0, none⟩ = some (.float .f64 X1) := bkeep hb4 (by first | assumption | (simp [go_sem]; done) | (simp [*]; done) | (simp [go_sem, *]; done) | exact bkeep (bl_alloc (Below.refl _ _)) (by assumption) (by first | omega | (simp; done) | (simp; omega))) (by first | omega | (simp; done) | (simp; omega))
  have c4_2_1 : w4.cell? ⟨w1.heap.size, 1, none⟩ = some (.float .f64 X2) := bkeep hb4 (by first | assumption | (simp [go_sem]; done) | (simp [*]; done) | (simp [go_sem, *]; done) | exact bkeep (bl_alloc (Below.refl _ _)) (by assumption) (by first | omega | (simp; done) | (simp; omega))) (by first | omega | (simp; done) | (simp; omega))
  have l4_3 : w2.heap.size < w4.heap.size := (by omega)
  have c4_4_0 : w4.cell? ⟨w2.heap.size, 0, none⟩ = some (.float .f64 Y1) := bkeep hb4 (by first | assumption | (simp [go_sem]; done) | (simp [*]; done) | (simp [go_sem, *]; done) | exact bkeep (bl_alloc (Below.refl _ _)) (by assumption) (by first | omega | (simp; done) | (simp; omega))) (by first | omega | (simp; done) | (simp; omega))
  have c4_5_1 : w4.cell? ⟨w2.heap.size, 1, none⟩ = some (.float .f64 Y2) := bkeep hb4 (by first | assumption | (simp [go_sem]; done) | (simp [*]; done) | (simp [go_sem, *]; done) | exact bkeep (bl_alloc (Below.refl _ _)) (by assumption) (by first | omega | (simp; done) | (simp; omega))) (by first | omega | (simp; done) | (simp; omega))
  have l4_6 : w3.heap.size < w4.heap.size := (by omega)
  have c4_7_0 : w4.cell? ⟨w3.heap.size, 0, none⟩ = some (.float .f64 Z1) := bkeep hb4 (by first | assumption | (simp [go_sem]; done) | (simp [*]; done) | (simp [go_sem, *]; done) | exact bkeep (bl_alloc (Below.refl _ _)) (by assumption) (by first | omega | (simp; done) | (simp; omega))) (by first | omega | (simp; done) | (simp; omega))
  have c4_8_1 : w4.cell? ⟨w3.heap.size, 1, none⟩ = some (.float .f64 Z2) := bkeep hb4 (by first | assumption | (simp [go_sem]; done) | (simp [*]; done) | (simp [go_sem, *]; done) | exact bkeep (bl_alloc (Below.refl _ _)) (by assumption) (by first | omega | (simp; done) | (simp; omega))) (by first | omega | (simp; done) | (simp; omega))
  clear l3_0 c3_1_0 c3_2_1 l3_3 c3_4_0 c3_5_1
  go_wp2_with fail
  go_at_call 46
  refine (hm _).mono ?_
  rintro e w5 ⟨rfl, hb5⟩
  have s5 := hb5.size
  try simp at s5
  have l5_0 : w1.heap.size < w5.heap.size := (by omega)
  have c5_1_0 : w5.cell? ⟨w1.heap.size, 0, none⟩ = some (.float .f64 X1) := bkeep hb5 (by first | assumption | (simp [go_sem]; done) | (simp [*]; done) | (simp [go_sem, *]; done) | exact bkeep (bl_alloc (Below.refl _ _)) (by assumption) (by first | omega | (simp; done) | (simp; omega))) (by first | omega | (simp; done) | (simp; omega))
  have c5_2_1 : w5.cell? ⟨w1.heap.size, 1, none⟩ = some (.float .f64 X2) := bkeep hb5 (by first | assumption | (simp [go_sem]; done) | (simp [*]; done) | (simp [go_sem, *]; done) | exact bkeep (bl_alloc (Below.refl _ _)) (by assumption) (by first | omega | (simp; done) | (simp; omega))) (by first | omega | (simp; done) | (simp; omega))
  have l5_3 : w2.heap.size < w5.heap.size := (by omega)
  have c5_4_0 : w5.cell? ⟨w2.heap.size, 0, none⟩ = some (.float .f64 Y1) := bkeep hb5 (by first | assumption | (simp [go_sem]; done) | (simp [*]; done) | (simp [go_sem, *]; done) | exact bkeep (bl_alloc (Below.refl _ _)) (by assumption) (by first | omega | (simp; done) | (simp; omega))) (by first | omega | (simp; done) | (simp; omega))
  have c5_5_1 : w5.cell? ⟨w2.heap.size, 1, none⟩ = some (.float .f64 Y2) := bkeep hb5 (by first | assumption | (simp [go_sem]; done) | (simp [*]; done) | (simp [go_sem, *]; done) | exact bkeep (bl_alloc (Below.refl _ _)) (by assumption) (by first | omega | (simp; done) | (simp; omega))) (by first | omega | (simp; done) | (simp; omega))
  have l5_6 : w3.heap.size < w5.heap.size := (by omega)
  have c5_7_0 : w5.cell? ⟨w3.heap.size, 0, none⟩ = some (.float .f64 Z1) := bkeep hb5 (by first | assumption | (simp [go_sem]; done) | (simp [*]; done) | (simp [go_sem, *]; done) | exact bkeep (bl_alloc (Below.refl _ _)) (by assumption) (by first | omega | (simp; done) | (simp; omega))) (by first | omega | (simp; done) | (simp; omega))
  have c5_8_1 : w5.cell? ⟨w3.heap.size, 1, none⟩ = some (.float .f64 Z2) := bkeep hb5 (by first | assumption | (simp [go_sem]; done) | (simp [*]; done) | (simp [go_sem, *]; done) | exact bkeep (bl_alloc (Below.refl _ _)) (by assumption) (by first | omega | (simp; done) | (simp; omega))) (by first | omega | (simp; done) | (simp; omega))
  have l5_9 : w4.heap.size < w5.heap.size := (by omega)
  have c5_10_0 : w5.cell? ⟨w4.heap.size, 0, none⟩ = some (.float .f64 ga) := bkeep hb5 (by first | assumption | (simp [go_sem]; done) | (simp [*]; done) | (simp [go_sem, *]; done) | exact bkeep (bl_alloc (Below.refl _ _)) (by assumption) (by first | omega | (simp; done) | (simp; omega))) (by first | omega | (simp; done) | (simp; omega))
  have c5_11_1 : w5.cell? ⟨w4.heap.size, 1, none⟩ = some (.float .f64 gb) := bkeep hb5 (by first | assumption | (simp [go_sem]; done) | (simp [*]; done) | (simp [go_sem, *]; done) | exact bkeep (bl_alloc (Below.refl _ _)) (by assumption) (by first | omega | (simp; done) | (simp; omega))) (by first | omega | (simp; done) | (simp; omega))
  clear l4_0 c4_1_0 c4_2_1 l4_3 c4_4_0 c4_5_1 l4_6 c4_7_0 c4_8_1
  go_wp2_with fail
  go_at_call 56
  refine (wa _).mono ?_
  rintro e w6 ⟨rfl, hb6⟩
  have s6 := hb6.size
  try simp at s6
  have l6_0 : w1.heap.size < w6.heap.size := (by omega)
  have c6_1_0 : w6.cell? ⟨w1.heap.size, 0, none⟩ = some (.float .f64 X1) := bkeep hb6 (by first | assumption | (simp [go_sem]; done) | (simp [*]; done) | (simp [go_sem, *]; done) | exact bkeep (bl_alloc (Below.refl _ _)) (by assumption) (by first | omega | (simp; done) | (simp; omega))) (by first | omega | (simp; done) | (simp; omega))
  have c6_2_1 : w6.cell? ⟨w1.heap.size, 1, none⟩ = some (.float .f64 X2) := bkeep hb6 (by first | assumption | (simp [go_sem]; done) | (simp [*]; done) | (simp [go_sem, *]; done) | exact bkeep (bl_alloc (Below.refl _ _)) (by assumption) (by first | omega | (simp; done) | (simp; omega))) (by first | omega | (simp; done) | (simp; omega))
  have l6_3 : w2.heap.size < w6.heap.size := (by omega)
  have c6_4_0 : w6.cell? ⟨w2.heap.size, 0, none⟩ = some (.float .f64 Y1) := bkeep hb6 (by first | assumption | (simp [go_sem]; done) | (simp [*]; done) | (simp [go_sem, *]; done) | exact bkeep (bl_alloc (Below.refl _ _)) (by assumption) (by first | omega | (simp; done) | (simp; omega))) (by first | omega | (simp; done) | (simp; omega))
  have c6_5_1 : w6.cell? ⟨w2.heap.size, 1, none⟩ = some (.float .f64 Y2) := bkeep hb6 (by first | assumption | (simp [go_sem]; done) | (simp [*]; done) | (simp [go_sem, *]; done) | exact bkeep (bl_alloc (Below.refl _ _)) (by assumption) (by first | omega | (simp; done) | (simp; omega))) (by first | omega | (simp; done) | (simp; omega))
  have l6_6 : w3.heap.size < w6.heap.size := (by omega)
  have c6_7_0 : w6.cell? ⟨w3.heap.size, 0, none⟩ = some (.float .f64 Z1) := bkeep hb6 (by first | assumption | (simp [go_sem]; done) | (simp [*]; done) | (simp [go_sem, *]; done) | exact bkeep (bl_alloc (Below.refl _ _)) (by assumption) (by first | omega | (simp; done) | (simp; omega))) (by first | omega | (simp; done) | (simp; omega))
  have c6_8_1 : w6.cell? ⟨w3.heap.size, 1, none⟩ = some (.float .f64 Z2) := bkeep hb6 (by first | assumption | (simp [go_sem]; done) | (simp [*]; done) | (simp [go_sem, *]; done) | exact bkeep (bl_alloc (Below.refl _ _)) (by assumption) (by first | omega | (simp; done) | (simp; omega))) (by first | omega | (simp; done) | (simp; omega))
  have l6_9 : w4.heap.size < w6.heap.size := (by omega)
  have c6_10_0 : w6.cell? ⟨w4.heap.size, 0, none⟩ = some (.float .f64 ga) := bkeep hb6 (by first | assumption | (simp [go_sem]; done) | (simp [*]; done) | (simp [go_sem, *]; done) | exact bkeep (bl_alloc (Below.refl _ _)) (by assumption) (by first | omega | (simp; done) | (simp; omega))) (by first | omega | (simp; done) | (simp; omega))
  have c6_11_1 : w6.cell? ⟨w4.heap.size, 1, none⟩ = some (.float .f64 gb) := bkeep hb6 (by first | assumption | (simp [go_sem]; done) | (simp [*]; done) | (simp [go_sem, *]; done) | exact bkeep (bl_alloc (Below.refl _ _)) (by assumption) (by first | omega | (simp; done) | (simp; omega))) (by first | omega | (simp; done) | (simp; omega))
  have l6_12 : w5.heap.size < w6.heap.size := (by omega)
  have c6_13_0 : w6.cell? ⟨w5.heap.size, 0, none⟩ = some (.float .f64 ma) := bkeep hb6 (by first | assumption | (simp [go_sem]; done) | (simp [*]; done) | (simp [go_sem, *]; done) | exact bkeep (bl_alloc (Below.refl _ _)) (by assumption) (by first | omega | (simp; done) | (simp; omega))) (by first | omega | (simp; done) | (simp; omega))
  have c6_14_1 : w6.cell? ⟨w5.heap.size, 1, none⟩ = some (.float .f64 mb) := bkeep hb6 (by first | assumption | (simp [go_sem]; done) | (simp [*]; done) | (simp [go_sem, *]; done) | exact bkeep (bl_alloc (Below.refl _ _)) (by assumption) (by first | omega | (simp; done) | (simp; omega))) (by first | omega | (simp; done) | (simp; omega))
  clear l5_0 c5_1_0 c5_2_1 l5_3 c5_4_0 c5_5_1 l5_6 c5_7_0 c5_8_1 l5_9 c5_10_0 c5_11_1
  go_wp2_with fail
  go_at_call 56
  refine (wb _).mono ?_
  rintro e w7 ⟨rfl, hb7⟩
  have s7 := hb7.size
  try simp at s7
  have l7_0 : w1.heap.size < w7.heap.size := (by omega)
  have c7_1_0 : w7.cell? ⟨w1.heap.size, 0, none⟩ = some (.float .f64 X1) := bkeep hb7 (by first | assumption | (simp [go_sem]; done) | (simp [*]; done) | (simp [go_sem, *]; done) | exact bkeep (bl_alloc (Below.refl _ _)) (by assumption) (by first | omega | (simp; done) | (simp; omega))) (by first | omega | (simp; done) | (simp; omega))
  have c7_2_1 : w7.cell? ⟨w1.heap.size, 1, none⟩ = some (.float .f64 X2) := bkeep hb7 (by first | assumption | (simp [go_sem]; done) | (simp [*]; done) | (simp [go_sem, *]; done) | exact bkeep (bl_alloc (Below.refl _ _)) (by assumption) (by first | omega | (simp; done) | (simp; omega))) (by first | omega | (simp; done) | (simp; omega))
  have l7_3 : w2.heap.size < w7.heap.size := (by omega)
  have c7_4_0 : w7.cell? ⟨w2.heap.size, 0, none⟩ = some (.float .f64 Y1) := bkeep hb7 (by first | assumption | (simp [go_sem]; done) | (simp [*]; done) | (simp [go_sem, *]; done) | exact bkeep (bl_alloc (Below.refl _ _)) (by assumption) (by first | omega | (simp; done) | (simp; omega))) (by first | omega | (simp; done) | (simp; omega))
  have c7_5_1 : w7.cell? ⟨w2.heap.size, 1, none⟩ = some (.float .f64 Y2) := bkeep hb7 (by first | assumption | (simp [go_sem]; done) | (simp [*]; done) | (simp [go_sem, *]; done) | exact bkeep (bl_alloc (Below.refl _ _)) (by assumption) (by first | omega | (simp; done) | (simp; omega))) (by first | omega | (simp; done) | (simp; omega))
  have l7_6 : w3.heap.size < w7.heap.size := (by omega)
  have c7_7_0 : w7.cell? ⟨w3.heap.size, 0, none⟩ = some (.float .f64 Z1) := bkeep hb7 (by first | assumption | (simp [go_sem]; done) | (simp [*]; done) | (simp [go_sem, *]; done) | exact bkeep (bl_alloc (Below.refl _ _)) (by assumption) (by first | omega | (simp; done) | (simp; omega))) (by first | omega | (simp; done) | (simp; omega))
  have c7_8_1 : w7.cell? ⟨w3.heap.size, 1, none⟩ = some (.float .f64 Z2) := bkeep hb7 (by first | assumption | (simp [go_sem]; done) | (simp [*]; done) | (simp [go_sem, *]; done) | exact bkeep (bl_alloc (Below.refl _ _)) (by assumption) (by first | omega | (simp; done) | (simp; omega))) (by first | omega | (simp; done) | (simp; omega))
  have l7_9 : w4.heap.size < w7.heap.size := (by omega)
  have c7_10_0 : w7.cell? ⟨w4.heap.size, 0, none⟩ = some (.float .f64 ga) := bkeep hb7 (by first | assumption | (simp [go_sem]; done) | (simp [*]; done) | (simp [go_sem, *]; done) | exact bkeep (bl_alloc (Below.refl _ _)) (by assumption) (by first | omega | (simp; done) | (simp; omega))) (by first | omega | (simp; done) | (simp; omega))
  have c7_11_1 : w7.cell? ⟨w4.heap.size, 1, none⟩ = some (.float .f64 gb) := bkeep hb7 (by first | assumption | (simp [go_sem]; done) | (simp [*]; done) | (simp [go_sem, *]; done) | exact bkeep (bl_alloc (Below.refl _ _)) (by assumption) (by first | omega | (simp; done) | (simp; omega))) (by first | omega | (simp; done) | (simp; omega))
  have l7_12 : w5.heap.size < w7.heap.size := (by omega)
  have c7_13_0 : w7.cell? ⟨w5.heap.size, 0, none⟩ = some (.float .f64 ma) := bkeep hb7 (by first | assumption | (simp [go_sem]; done) | (simp [*]; done) | (simp [go_sem, *]; done) | exact bkeep (bl_alloc (Below.refl _ _)) (by assumption) (by first | omega | (simp; done) | (simp; omega))) (by first | omega | (simp; done) | (simp; omega))
  have c7_14_1 : w7.cell? ⟨w5.heap.size, 1, none⟩ = some (.float .f64 mb) := bkeep hb7 (by first | assumption | (simp [go_sem]; done) | (simp [*]; done) | (simp [go_sem, *]; done) | exact bkeep (bl_alloc (Below.refl _ _)) (by assumption) (by first | omega | (simp; done) | (simp; omega))) (by first | omega | (simp; done) | (simp; omega))
  clear l6_0 c6_1_0 c6_2_1 l6_3 c6_4_0 c6_5_1 l6_6 c6_7_0 c6_8_1 l6_9 c6_10_0 c6_11_1 l6_12 c6_13_0 c6_14_1
  go_wp2_with fail
  go_at_call 56
  refine (wc _).mono ?_
  rintro e w8 ⟨rfl, hb8⟩
  have s8 := hb8.size
  try simp at s8
  have l8_0 : w1.heap.size < w8.heap.size := (by omega)
  have c8_1_0 : w8.cell? ⟨w1.heap.size, 0, none⟩ = some (.float .f64 X1) := bkeep hb8 (by first | assumption | (simp [go_sem]; done) | (simp [*]; done) | (simp [go_sem, *]; done) | exact bkeep (bl_alloc (Below.refl _ _)) (by assumption) (by first | omega | (simp; done) | (simp; omega))) (by first | omega | (simp; done) | (simp; omega))
  have c8_2_1 : w8.cell? ⟨w1.heap.size, 1, none⟩ = some (.float .f64 X2) := bkeep hb8 (by first | assumption | (simp [go_sem]; done) | (simp [*]; done) | (simp [go_sem, *]; done) | exact bkeep (bl_alloc (Below.refl _ _)) (by assumption) (by first | omega | (simp; done) | (simp; omega))) (by first | omega | (simp; done) | (simp; omega))
  have l8_3 : w2.heap.size < w8.heap.size := (by omega)
  have c8_4_0 : w8.cell? ⟨w2.heap.size, 0, none⟩ = some (.float .f64 Y1) := bkeep hb8 (by first | assumption | (simp [go_sem]; done) | (simp [*]; done) | (simp [go_sem, *]; done) | exact bkeep (bl_alloc (Below.refl _ _)) (by assumption) (by first | omega | (simp; done) | (simp; omega))) (by first | omega | (simp; done) | (simp; omega))
  have c8_5_1 : w8.cell? ⟨w2.heap.size, 1, none⟩ = some (.float .f64 Y2) := bkeep hb8 (by first | assumption | (simp [go_sem]; done) | (simp [*]; done) | (simp [go_sem, *]; done) | exact bkeep (bl_alloc (Below.refl _ _)) (by assumption) (by first | omega | (simp; done) | (simp; omega))) (by first | omega | (simp; done) | (simp; omega))
  have l8_6 : w3.heap.size < w8.heap.size := (by omega)
  have c8_7_0 : w8.cell? ⟨w3.heap.size, 0, none⟩ = some (.float .f64 Z1) := bkeep hb8 (by first | assumption | (simp [go_sem]; done) | (simp [*]; done) | (simp [go_sem, *]; done) | exact bkeep (bl_alloc (Below.refl _ _)) (by assumption) (by first | omega | (simp; done) | (simp; omega))) (by first | omega | (simp; done) | (simp; omega))
  have c8_8_1 : w8.cell? ⟨w3.heap.size, 1, none⟩ = some (.float .f64 Z2) := bkeep hb8 (by first | assumption | (simp [go_sem]; done) | (simp [*]; done) | (simp [go_sem, *]; done) | exact bkeep (bl_alloc (Below.refl _ _)) (by assumption) (by first | omega | (simp; done) | (simp; omega))) (by first | omega | (simp; done) | (simp; omega))
  have l8_9 : w4.heap.size < w8.heap.size := (by omega)
  have c8_10_0 : w8.cell? ⟨w4.heap.size, 0, none⟩ = some (.float .f64 ga) := bkeep hb8 (by first | assumption | (simp [go_sem]; done) | (simp [*]; done) | (simp [go_sem, *]; done) | exact bkeep (bl_alloc (Below.refl _ _)) (by assumption) (by first | omega | (simp; done) | (simp; omega))) (by first | omega | (simp; done) | (simp; omega))
  have c8_11_1 : w8.cell? ⟨w4.heap.size, 1, none⟩ = some (.float .f64 gb) := bkeep hb8 (by first | assumption | (simp [go_sem]; done) | (simp [*]; done) | (simp [go_sem, *]; done) | exact bkeep (bl_alloc (Below.refl _ _)) (by assumption) (by first | omega | (simp; done) | (simp; omega))) (by first | omega | (simp; done) | (simp; omega))
  have l8_12 : w5.heap.size < w8.heap.size := (by omega)
  have c8_13_0 : w8.cell? ⟨w5.heap.size, 0, none⟩ = some (.float .f64 ma) := bkeep hb8 (by first | assumption | (simp [go_sem]; done) | (simp [*]; done) | (simp [go_sem, *]; done) | exact bkeep (bl_alloc (Below.refl _ _)) (by assumption) (by first | omega | (simp; done) | (simp; omega))) (by first | omega | (simp; done) | (simp; omega))
  have c8_14_1 : w8.cell? ⟨w5.heap.size, 1, none⟩ = some (.float .f64 mb) := bkeep hb8 (by first | assumption | (simp [go_sem]; done) | (simp [*]; done) | (simp [go_sem, *]; done) | exact bkeep (bl_alloc (Below.refl _ _)) (by assumption) (by first | omega | (simp; done) | (simp; omega))) (by first | omega | (simp; done) | (simp; omega))
  clear l7_0 c7_1_0 c7_2_1 l7_3 c7_4_0 c7_5_1 l7_6 c7_7_0 c7_8_1 l7_9 c7_10_0 c7_11_1 l7_12 c7_13_0 c7_14_1
  go_wp2_with fail
  go_at_call 56
  refine (wd _).mono ?_
  rintro e w9 ⟨rfl, hb9⟩
  have s9 := hb9.size
  try simp at s9
  have l9_0 : w1.heap.size < w9.heap.size := (by omega)
  have c9_1_0 : w9.cell? ⟨w1.heap.size, 0, none⟩ = some (.float .f64 X1) := bkeep hb9 (by first | assumption | (simp [go_sem]; done) | (simp [*]; done) | (simp [go_sem, *]; done) | exact bkeep (bl_alloc (Below.refl _ _)) (by assumption) (by first | omega | (simp; done) | (simp; omega))) (by first | omega | (simp; done) | (simp; omega))
  have c9_2_1 : w9.cell? ⟨w1.heap.size, 1, none⟩ = some (.float .f64 X2) := bkeep hb9 (by first | assumption | (simp [go_sem]; done) | (simp [*]; done) | (simp [go_sem, *]; done) | exact bkeep (bl_alloc (Below.refl _ _)) (by assumption) (by first | omega | (simp; done) | (simp; omega))) (by first | omega | (simp; done) | (simp; omega))
  have l9_3 : w2.heap.size < w9.heap.size := (by omega)
  have c9_4_0 : w9.cell? ⟨w2.heap.size, 0, none⟩ = some (.float .f64 Y1) := bkeep hb9 (by first | assumption | (simp [go_sem]; done) | (simp [*]; done) | (simp [go_sem, *]; done) | exact bkeep (bl_alloc (Below.refl _ _)) (by assumption) (by first | omega | (simp; done) | (simp; omega))) (by first | omega | (simp; done) | (simp; omega))
  have c9_5_1 : w9.cell? ⟨w2.heap.size, 1, none⟩ = some (.float .f64 Y2) := bkeep hb9 (by first | assumption | (simp [go_sem]; done) | (simp [*]; done) | (simp [go_sem, *]; done) | exact bkeep (bl_alloc (Below.refl _ _)) (by assumption) (by first | omega | (simp; done) | (simp; omega))) (by first | omega | (simp; done) | (simp; omega))
  have l9_6 : w4.heap.size < w9.heap.size := (by omega)
  have c9_7_0 : w9.cell? ⟨w4.heap.size, 0, none⟩ = some (.float .f64 ga) := bkeep hb9 (by first | assumption | (simp [go_sem]; done) | (simp [*]; done) | (simp [go_sem, *]; done) | exact bkeep (bl_alloc (Below.refl _ _)) (by assumption) (by first | omega | (simp; done) | (simp; omega))) (by first | omega | (simp; done) | (simp; omega))
  have c9_8_1 : w9.cell? ⟨w4.heap.size, 1, none⟩ = some (.float .f64 gb) := bkeep hb9 (by first | assumption | (simp [go_sem]; done) | (simp [*]; done) | (simp [go_sem, *]; done) | exact bkeep (bl_alloc (Below.refl _ _)) (by assumption) (by first | omega | (simp; done) | (simp; omega))) (by first | omega | (simp; done) | (simp; omega))
  clear l8_0 c8_1_0 c8_2_1 l8_3 c8_4_0 c8_5_1 l8_6 c8_7_0 c8_8_1 l8_9 c8_10_0 c8_11_1 l8_12 c8_13_0 c8_14_1
  go_wp2_with fail
  go_region_held3 (fun w' => w'.cell? ⟨w1.heap.size, 0, none⟩ = some (.float .f64 X1) ∧ w'.cell? ⟨w1.heap.size, 1, none⟩ = some (.float .f64 X2) ∧ w'.cell? ⟨w2.heap.size, 0, none⟩ = some (.float .f64 Y1) ∧ w'.cell? ⟨w2.heap.size, 1, none⟩ = some (.float .f64 Y2)) (((try dsimp only); (repeat' apply And.intro) <;> first | exact bkeep (W := w9) (n := w9.heap.size) (by repeat (first | exact Below.refl _ _ | assumption | refine Below.drew ?_ | refine bl_drewN ?_ _ | refine bl_alloc ?_ | refine bl_next ?_ (by assumption) | refine bl_set ?_ (by first | omega | (simp; done) | (simp; omega)))) (by assumption) (by first | omega | (simp; done) | (simp; omega)))) (first | (go_at_call 33; with_reducible refine (c0 _).mono ?_; rintro e w' ⟨rfl, hb⟩) | (go_at_call 36; with_reducible refine (c1 _).mono ?_; rintro e w' ⟨rfl, hb⟩) | (go_at_call 36; with_reducible refine (c2 _).mono ?_; rintro e w' ⟨rfl, hb⟩) | (go_at_call 38; with_reducible refine (c3 _).mono ?_; rintro e w' ⟨rfl, hb⟩) | (go_at_call 40; with_reducible refine (c4 _).mono ?_; rintro e w' ⟨rfl, hb⟩) | (go_at_call 40; with_reducible refine (c5 _).mono ?_; rintro e w' ⟨rfl, hb⟩) | (go_at_call 42; with_reducible refine (c6 _).mono ?_; rintro e w' ⟨rfl, hb⟩) | (go_at_call 44; with_reducible refine (c7 _).mono ?_; rintro e w' ⟨rfl, hb⟩))
  have h7 : Below w9.heap.size w9 w' := by
    repeat (first | exact Below.refl _ _ | assumption | refine Below.drew ?_ | refine bl_drewN ?_ _ | refine bl_alloc ?_ | refine bl_next ?_ (by assumption) | refine bl_set ?_ (by first | omega | (simp; done) | (simp; omega)))
  generalize w' = v7 at *
  have s7 := h7.size
  have q7 := fun j (hj : j < 8) => cells16 v7 sA sB 32 j hj
  have a7 : Below w9.heap.size w9 (v7.alloc (.cells #[.float .f64 (sA 0), .float .f64 (sB 0), .float .f64 (sA 1), .float .f64 (sB 1), .float .f64 (sA 2), .float .f64 (sB 2), .float .f64 (sA 3), .float .f64 (sB 3), .float .f64 (sA 4), .float .f64 (sB 4), .float .f64 (sA 5), .float .f64 (sB 5), .float .f64 (sA 6), .float .f64 (sB 6), .float .f64 (sA 7), .float .f64 (sB 7)] 32)) := bl_alloc h7
  have s7b : v7.heap.size + 1 ≤ (v7.alloc (.cells #[.float .f64 (sA 0), .float .f64 (sB 0), .float .f64 (sA 1), .float .f64 (sB 1), .float .f64 (sA 2), .float .f64 (sB 2), .float .f64 (sA 3), .float .f64 (sB 3), .float .f64 (sA 4), .float .f64 (sB 4), .float .f64 (sA 5), .float .f64 (sB 5), .float .f64 (sA 6), .float .f64 (sB 6), .float .f64 (sA 7), .float .f64 (sB 7)] 32)).heap.size := by simp
  go_wp2_with fail
  generalize (v7.alloc (.cells #[.float .f64 (sA 0), .float .f64 (sB 0), .float .f64 (sA 1), .float .f64 (sB 1), .float .f64 (sA 2), .float .f64 (sB 2), .float .f64 (sA 3), .float .f64 (sB 3), .float .f64 (sA 4), .float .f64 (sB 4), .float .f64 (sA 5), .float .f64 (sB 5), .float .f64 (sA 6), .float .f64 (sB 6), .float .f64 (sA 7), .float .f64 (sB 7)] 32)) = wC at *
  have y0_0 : wC.cell? ⟨w2.heap.size, 0, none⟩ = some (.float .f64 Y1) := bkeep a7 (by assumption) (by first | omega | (simp; done) | (simp; omega))
  have y0_1 : wC.cell? ⟨w2.heap.size, 1, none⟩ = some (.float .f64 Y2) := bkeep a7 (by assumption) (by first | omega | (simp; done) | (simp; omega))
  have y1_0 : wC.cell? ⟨w4.heap.size, 0, none⟩ = some (.float .f64 ga) := bkeep a7 (by assumption) (by first | omega | (simp; done) | (simp; omega))
  have y1_1 : wC.cell? ⟨w4.heap.size, 1, none⟩ = some (.float .f64 gb) := bkeep a7 (by assumption) (by first | omega | (simp; done) | (simp; omega))
  have HQ7 : Hid (∀ j, j < 8 → wC.cell? ⟨v7.heap.size, j * 2, none⟩ = some (.float .f64 (sA j)) ∧ wC.cell? ⟨v7.heap.size, j * 2 + 1, none⟩ = some (.float .f64 (sB j))) := q7
  clear q7
  go_region_held3 (fun w' => w'.cell? ⟨w2.heap.size, 0, none⟩ = some (.float .f64 Y1) ∧ w'.cell? ⟨w2.heap.size, 1, none⟩ = some (.float .f64 Y2) ∧ w'.cell? ⟨w4.heap.size, 0, none⟩ = some (.float .f64 ga) ∧ w'.cell? ⟨w4.heap.size, 1, none⟩ = some (.float .f64 gb)) (((try dsimp only); (repeat' apply And.intro) <;> first | exact bkeep (W := wC) (n := wC.heap.size) (by repeat (first | exact Below.refl _ _ | assumption | refine Below.drew ?_ | refine bl_drewN ?_ _ | refine bl_alloc ?_ | refine bl_next ?_ (by assumption) | refine bl_set ?_ (by first | omega | (simp; done) | (simp; omega)))) (by assumption) (by first | omega | (simp; done) | (simp; omega)))) (first | (go_at_call 33; with_reducible refine (e0 _).mono ?_; rintro e w' ⟨rfl, hb⟩) | (go_at_call 36; with_reducible refine (e1 _).mono ?_; rintro e w' ⟨rfl, hb⟩) | (go_at_call 36; with_reducible refine (e2 _).mono ?_; rintro e w' ⟨rfl, hb⟩) | (go_at_call 38; with_reducible refine (e3 _).mono ?_; rintro e w' ⟨rfl, hb⟩) | (go_at_call 40; with_reducible refine (e4 _).mono ?_; rintro e w' ⟨rfl, hb⟩) | (go_at_call 40; with_reducible refine (e5 _).mono ?_; rintro e w' ⟨rfl, hb⟩) | (go_at_call 42; with_reducible refine (e6 _).mono ?_; rintro e w' ⟨rfl, hb⟩) | (go_at_call 44; with_reducible refine (e7 _).mono ?_; rintro e w' ⟨rfl, hb⟩))
  have h8 : Below wC.heap.size wC w' := by
    repeat (first | exact Below.refl _ _ | assumption | refine Below.drew ?_ | refine bl_drewN ?_ _ | refine bl_alloc ?_ | refine bl_next ?_ (by assumption) | refine bl_set ?_ (by first | omega | (simp; done) | (simp; omega)))
  generalize w' = v8 at *
  have s8 := h8.size
  have q8 := fun j (hj : j < 8) => cells16 v8 tA tB 32 j hj
  have a8 : Below wC.heap.size wC (v8.alloc (.cells #[.float .f64 (tA 0), .float .f64 (tB 0), .float .f64 (tA 1), .float .f64 (tB 1), .float .f64 (tA 2), .float .f64 (tB 2), .float .f64 (tA 3), .float .f64 (tB 3), .float .f64 (tA 4), .float .f64 (tB 4), .float .f64 (tA 5), .float .f64 (tB 5), .float .f64 (tA 6), .float .f64 (tB 6), .float .f64 (tA 7), .float .f64 (tB 7)] 32)) := bl_alloc h8
  go_wp2_with fail
  generalize (v8.alloc (.cells #[.float .f64 (tA 0), .float .f64 (tB 0), .float .f64 (tA 1), .float .f64 (tB 1), .float .f64 (tA 2), .float .f64 (tB 2), .float .f64 (tA 3), .float .f64 (tB 3), .float .f64 (tA 4), .float .f64 (tB 4), .float .f64 (tA 5), .float .f64 (tB 5), .float .f64 (tA 6), .float .f64 (tB 6), .float .f64 (tA 7), .float .f64 (tB 7)] 32)) = wD at *
  have q7 : ∀ j, j < 8 → wD.cell? ⟨v7.heap.size, j * 2, none⟩ = some (.float .f64 (sA j)) ∧ wD.cell? ⟨v7.heap.size, j * 2 + 1, none⟩ = some (.float .f64 (sB j)) := fun j hj => ⟨bkeep a8 (HQ7.out j hj).1 (by simp; omega), bkeep a8 (HQ7.out j hj).2 (by simp; omega)⟩
  have hBD : Below w.heap.size w wD := by
    repeat (first | exact Below.refl _ _ | assumption | refine Below.drew ?_ | refine bl_drewN ?_ _ | refine Below.setCell ?_ (by first | omega | (simp; done) | (simp; omega)) _ | refine Below.alloc ?_ (by first | omega | (simp; done) | (simp; omega)) _ | refine bl_next ?_ (by assumption) | refine bl_trans ?_ (by assumption) (by first | omega | (simp; done) | (simp; omega)))
  go_loopw [18, 21] (fun ok i wr => ∃ k : Nat, k ≤ 8 ∧ i = .int .i64 k ∧ ok = .bool true ∧ Below w.heap.size w wr ∧ (∀ j, j < 8 → wr.cell? ⟨v7.heap.size, j * 2, none⟩ = some (.float .f64 (sA j)) ∧ wr.cell? ⟨v7.heap.size, j * 2 + 1, none⟩ = some (.float .f64 (sB j))) ∧ (∀ j, j < 8 → wr.cell? ⟨v8.heap.size, j * 2, none⟩ = some (.float .f64 (tA j)) ∧ wr.cell? ⟨v8.heap.size, j * 2 + 1, none⟩ = some (.float .f64 (tB j)))) (fun _ i _ => 8 - (intOf i).toNat)
  case atStart => exact ⟨0, by omega, rfl, rfl, hBD, q7, q8⟩
  case round =>
    obtain ⟨k, hk, rfl, rfl, hB, c7, c8⟩ := hrel
    clear hBD q7 q8 HQ7
    by_cases hlt : k < 8
    · have x1 := (c7 k hlt).1
      have x2 := (c7 k hlt).2
      have x3 := (c8 k hlt).1
      have x4 := (c8 k hlt).2
      have wk := wi k hlt
      have H7 : Hid _ := c7
      have H8 : Hid _ := c8
      clear c7 c8 wi
      generalize sA k = a1 at *
      generalize sB k = a2 at *
      generalize tA k = a3 at *
      generalize tB k = a4 at *
      go_wp2_with fail
      go_region_held3 (fun w' => w'.cell? ⟨v7.heap.size, k * 2, none⟩ = some (.float .f64 a1) ∧ w'.cell? ⟨v7.heap.size, k * 2 + 1, none⟩ = some (.float .f64 a2) ∧ w'.cell? ⟨v8.heap.size, k * 2, none⟩ = some (.float .f64 a3) ∧ w'.cell? ⟨v8.heap.size, k * 2 + 1, none⟩ = some (.float .f64 a4)) (((try dsimp only); (repeat' apply And.intro) <;> first | go_keep | exact bkeep2 hb (by simp [*]))) (first | (go_at_call 56; with_reducible refine (wk _).mono ?_; rintro e w' ⟨rfl, hb⟩))
      have hb2 := undrew hb
      go_wp2_with fail
      go_roundw
      case rel => exact ⟨k + 1, by omega, by go_num, rfl, bl_next hB hb2, fun j hj => ⟨bkeep2 hb2 (H7.out j hj).1, bkeep2 hb2 (H7.out j hj).2⟩, fun j hj => ⟨bkeep2 hb2 (H8.out j hj).1, bkeep2 hb2 (H8.out j hj).2⟩⟩
      case measure => simp [intOf]; omega
    · have : k = 8 := by omega
      subst this
      go_wp2_with fail
      go_ret
      exact ⟨rfl, hB⟩

end Go.Proofs.Ytacnclofbnafiaa
