import Derived.Test.YtacnclofbnafiabGreatDoorK5
namespace Go.Proofs.YtacnclofbnafiabGreatDoor
open Go.RowKit Fl

theorem sub_w (X1 X2 Y1 Y2 a b c d : Nat)
    (n : ∀ w, Calls Tryz.prog 134 #[.agg #[.float .f64 Y1, .float .f64 Y2]] w fun e w' => e = .returned (.agg #[.float .f64 a, .float .f64 b]) ∧ Below w.heap.size w w')
    (s : ∀ w, Calls Tryz.prog 118 #[.agg #[.float .f64 X1, .float .f64 X2], .agg #[.float .f64 a, .float .f64 b]] w fun e w' => e = .returned (.agg #[.float .f64 c, .float .f64 d]) ∧ Below w.heap.size w w') (w : World) :
    Calls Tryz.prog 119 #[.agg #[.float .f64 X1, .float .f64 X2], .agg #[.float .f64 Y1, .float .f64 Y2]] w fun e w' => e = .returned (.agg #[.float .f64 c, .float .f64 d]) ∧ Below w.heap.size w w' := by
  go_enter Tryz.func119, Tryz.ntmps119
  go_wp2_with fail
  have c0_0_0 : (((w.alloc (.cells #[.float .f64 X1, .float .f64 X2] 37)).alloc (.cells #[.float .f64 Y1, .float .f64 Y2] 37)).alloc (.cells #[.float .f64 0, .float .f64 0] 37)).cell? ⟨w.heap.size, 0, none⟩ = some (.float .f64 X1) := by simp [go_sem]
  have c0_1_1 : (((w.alloc (.cells #[.float .f64 X1, .float .f64 X2] 37)).alloc (.cells #[.float .f64 Y1, .float .f64 Y2] 37)).alloc (.cells #[.float .f64 0, .float .f64 0] 37)).cell? ⟨w.heap.size, 1, none⟩ = some (.float .f64 X2) := by simp [go_sem]
  have c0_2_0 : (((w.alloc (.cells #[.float .f64 X1, .float .f64 X2] 37)).alloc (.cells #[.float .f64 Y1, .float .f64 Y2] 37)).alloc (.cells #[.float .f64 0, .float .f64 0] 37)).cell? ⟨w.heap.size + 1, 0, none⟩ = some (.float .f64 Y1) := by simp [go_sem]
  have c0_3_1 : (((w.alloc (.cells #[.float .f64 X1, .float .f64 X2] 37)).alloc (.cells #[.float .f64 Y1, .float .f64 Y2] 37)).alloc (.cells #[.float .f64 0, .float .f64 0] 37)).cell? ⟨w.heap.size + 1, 1, none⟩ = some (.float .f64 Y2) := by simp [go_sem]
  have c0_4_0 : (((w.alloc (.cells #[.float .f64 X1, .float .f64 X2] 37)).alloc (.cells #[.float .f64 Y1, .float .f64 Y2] 37)).alloc (.cells #[.float .f64 0, .float .f64 0] 37)).cell? ⟨w.heap.size + 1 + 1, 0, none⟩ = some (.float .f64 0) := by simp [go_sem]
  have f0_4_0 : (((w.alloc (.cells #[.float .f64 X1, .float .f64 X2] 37)).alloc (.cells #[.float .f64 Y1, .float .f64 Y2] 37)).alloc (.cells #[.float .f64 0, .float .f64 0] 37)).frozen? ⟨w.heap.size + 1 + 1, 0, none⟩ = false := by simp [go_sem]
  have c0_5_1 : (((w.alloc (.cells #[.float .f64 X1, .float .f64 X2] 37)).alloc (.cells #[.float .f64 Y1, .float .f64 Y2] 37)).alloc (.cells #[.float .f64 0, .float .f64 0] 37)).cell? ⟨w.heap.size + 1 + 1, 1, none⟩ = some (.float .f64 0) := by simp [go_sem]
  have f0_5_1 : (((w.alloc (.cells #[.float .f64 X1, .float .f64 X2] 37)).alloc (.cells #[.float .f64 Y1, .float .f64 Y2] 37)).alloc (.cells #[.float .f64 0, .float .f64 0] 37)).frozen? ⟨w.heap.size + 1 + 1, 1, none⟩ = false := by simp [go_sem]
  have s0 : w.heap.size + 1 + 1 + 1 ≤ (((w.alloc (.cells #[.float .f64 X1, .float .f64 X2] 37)).alloc (.cells #[.float .f64 Y1, .float .f64 Y2] 37)).alloc (.cells #[.float .f64 0, .float .f64 0] 37)).heap.size := by simp
  have hB0 : Below w.heap.size w (((w.alloc (.cells #[.float .f64 X1, .float .f64 X2] 37)).alloc (.cells #[.float .f64 Y1, .float .f64 Y2] 37)).alloc (.cells #[.float .f64 0, .float .f64 0] 37)) := by
    repeat (first | exact Below.refl _ _ | assumption | refine Below.drew ?_ | refine bl_drewN ?_ _ | refine Below.setCell ?_ (by first | omega | (simp; done) | (simp; omega)) _ | refine Below.alloc ?_ (by first | omega | (simp; done) | (simp; omega)) _ | refine bl_next ?_ (by assumption) | refine bl_trans ?_ (by assumption) (by first | omega | (simp; done) | (simp; omega)))
  generalize (((w.alloc (.cells #[.float .f64 X1, .float .f64 X2] 37)).alloc (.cells #[.float .f64 Y1, .float .f64 Y2] 37)).alloc (.cells #[.float .f64 0, .float .f64 0] 37)) = w0 at *
  go_region_held3 (fun w' => w'.cell? ⟨w.heap.size, 0, none⟩ = some (.float .f64 X1) ∧ w'.cell? ⟨w.heap.size, 1, none⟩ = some (.float .f64 X2) ∧ w'.cell? ⟨w.heap.size + 1, 0, none⟩ = some (.float .f64 Y1) ∧ w'.cell? ⟨w.heap.size + 1, 1, none⟩ = some (.float .f64 Y2)) (((try dsimp only); (repeat' apply And.intro) <;> first | go_keep | exact bkeep2 hb (by simp [*]) | (rw [set_other (by first | omega | (simp; done) | (simp; omega)), set_other (by first | omega | (simp; done) | (simp; omega))]; simp [*]; done))) (first | (go_at_call 134; with_reducible refine (n _).mono ?_; rintro e w' ⟨rfl, hb⟩; have : w'.cell? ⟨w.heap.size + 1 + 1, 0, none⟩ = some (.float .f64 0) := bkeep2 hb (by simp [*]); have : w'.frozen? ⟨w.heap.size + 1 + 1, 0, none⟩ = false := bfroz2 hb (by simp [*]; rfl) (by simp [*]); have : w'.cell? ⟨w.heap.size + 1 + 1, 1, none⟩ = some (.float .f64 0) := bkeep2 hb (by simp [*]); have : w'.frozen? ⟨w.heap.size + 1 + 1, 1, none⟩ = false := bfroz2 hb (by simp [*]; rfl) (by simp [*])) | (go_at_call 118; with_reducible refine (s _).mono ?_; rintro e w' ⟨rfl, hb⟩; have : w'.cell? ⟨w.heap.size + 1 + 1, 0, none⟩ = some (.float .f64 0) := bkeep2 hb (by simp [*]); have : w'.frozen? ⟨w.heap.size + 1 + 1, 0, none⟩ = false := bfroz2 hb (by simp [*]; rfl) (by simp [*]); have : w'.cell? ⟨w.heap.size + 1 + 1, 1, none⟩ = some (.float .f64 0) := bkeep2 hb (by simp [*]); have : w'.frozen? ⟨w.heap.size + 1 + 1, 1, none⟩ = false := bfroz2 hb (by simp [*]; rfl) (by simp [*])))
  all_goals (go_wp2_with fail; refine bodyPost_ret (v := .agg #[.float .f64 c, .float .f64 d]) (by simp [results, Tryz.results119, go_sem, *]) rfl ⟨rfl, ?_⟩; repeat (first | exact Below.refl _ _ | assumption | refine Below.drew ?_ | refine bl_drewN ?_ _ | refine Below.setCell ?_ (by first | omega | (simp; done) | (simp; omega)) _ | refine Below.alloc ?_ (by first | omega | (simp; done) | (simp; omega)) _ | refine bl_next ?_ (by assumption) | refine bl_trans ?_ (by assumption) (by first | omega | (simp; done) | (simp; omega))))

end Go.Proofs.YtacnclofbnafiabGreatDoor

namespace Go.Proofs.YtacnclofbnafiabGreatDoor
open Go.RowKit Fl

theorem mul_nox_w (X1 X2 Y1 Y2 e1 e2 : Nat)
    (nx : ∀ w, Calls Tryz.prog 121 #[.agg #[.float .f64 X1, .float .f64 X2]] w fun e w' => e = .returned (.bool true) ∧ Below w.heap.size w w')
    (em : ∀ w, Calls Tryz.prog 145 #[] w fun e w' => e = .returned (.agg #[.float .f64 e1, .float .f64 e2]) ∧ Below w.heap.size w w') (w : World) :
    Calls Tryz.prog 120 #[.agg #[.float .f64 X1, .float .f64 X2], .agg #[.float .f64 Y1, .float .f64 Y2]] w fun e w' => e = .returned (.agg #[.float .f64 e1, .float .f64 e2]) ∧ Below w.heap.size w w' := by
  go_enter Tryz.func120, Tryz.ntmps120
  go_wp2_with fail
  go_at_call 121
  refine (nx _).mono ?_
  rintro e w1 ⟨rfl, hb1⟩
  have s1 := hb1.size
  try simp at s1
  have l1_0 : w.heap.size < w1.heap.size := (by omega)
  have c1_1_0 : w1.cell? ⟨w.heap.size, 0, none⟩ = some (.float .f64 X1) := bkeep hb1 (by first | assumption | (simp [go_sem]; done) | (simp [*]; done) | (simp [go_sem, *]; done) | exact bkeep (bl_alloc (Below.refl _ _)) (by assumption) (by first | omega | (simp; done) | (simp; omega))) (by first | omega | (simp; done) | (simp; omega))
  have c1_2_1 : w1.cell? ⟨w.heap.size, 1, none⟩ = some (.float .f64 X2) := bkeep hb1 (by first | assumption | (simp [go_sem]; done) | (simp [*]; done) | (simp [go_sem, *]; done) | exact bkeep (bl_alloc (Below.refl _ _)) (by assumption) (by first | omega | (simp; done) | (simp; omega))) (by first | omega | (simp; done) | (simp; omega))
  have l1_3 : w.heap.size + 1 < w1.heap.size := (by omega)
  have c1_4_0 : w1.cell? ⟨w.heap.size + 1, 0, none⟩ = some (.float .f64 Y1) := bkeep hb1 (by first | assumption | (simp [go_sem]; done) | (simp [*]; done) | (simp [go_sem, *]; done) | exact bkeep (bl_alloc (Below.refl _ _)) (by assumption) (by first | omega | (simp; done) | (simp; omega))) (by first | omega | (simp; done) | (simp; omega))
  have c1_5_1 : w1.cell? ⟨w.heap.size + 1, 1, none⟩ = some (.float .f64 Y2) := bkeep hb1 (by first | assumption | (simp [go_sem]; done) | (simp [*]; done) | (simp [go_sem, *]; done) | exact bkeep (bl_alloc (Below.refl _ _)) (by assumption) (by first | omega | (simp; done) | (simp; omega))) (by first | omega | (simp; done) | (simp; omega))
  have l1_6 : w.heap.size + 1 + 1 < w1.heap.size := (by omega)
  have c1_7_0 : w1.cell? ⟨w.heap.size + 1 + 1, 0, none⟩ = some (.float .f64 0) := bkeep hb1 (by first | assumption | (simp [go_sem]; done) | (simp [*]; done) | (simp [go_sem, *]; done) | exact bkeep (bl_alloc (Below.refl _ _)) (by assumption) (by first | omega | (simp; done) | (simp; omega))) (by first | omega | (simp; done) | (simp; omega))
  have f1_7_0 : w1.frozen? ⟨w.heap.size + 1 + 1, 0, none⟩ = false := bfroz hb1 (by first | assumption | (simp [go_sem]; done) | (simp [*]; done) | (simp [go_sem, *]; done) | exact bfroz (bl_alloc (Below.refl _ _)) (by assumption) (by first | omega | (simp; done) | (simp; omega))) (by first | omega | (simp; done) | (simp; omega))
  have c1_8_1 : w1.cell? ⟨w.heap.size + 1 + 1, 1, none⟩ = some (.float .f64 0) := bkeep hb1 (by first | assumption | (simp [go_sem]; done) | (simp [*]; done) | (simp [go_sem, *]; done) | exact bkeep (bl_alloc (Below.refl _ _)) (by assumption) (by first | omega | (simp; done) | (simp; omega))) (by first | omega | (simp; done) | (simp; omega))
  have f1_8_1 : w1.frozen? ⟨w.heap.size + 1 + 1, 1, none⟩ = false := bfroz hb1 (by first | assumption | (simp [go_sem]; done) | (simp [*]; done) | (simp [go_sem, *]; done) | exact bfroz (bl_alloc (Below.refl _ _)) (by assumption) (by first | omega | (simp; done) | (simp; omega))) (by first | omega | (simp; done) | (simp; omega))
  go_wp2_with fail
  go_at_call 145
  refine (em _).mono ?_
  rintro e w2 ⟨rfl, hb2⟩
  have s2 := hb2.size
  try simp at s2
  have l2_0 : w.heap.size < w2.heap.size := (by omega)
  have c2_1_0 : w2.cell? ⟨w.heap.size, 0, none⟩ = some (.float .f64 X1) := bkeep hb2 (by first | assumption | (simp [go_sem]; done) | (simp [*]; done) | (simp [go_sem, *]; done) | exact bkeep (bl_alloc (Below.refl _ _)) (by assumption) (by first | omega | (simp; done) | (simp; omega))) (by first | omega | (simp; done) | (simp; omega))
  have c2_2_1 : w2.cell? ⟨w.heap.size, 1, none⟩ = some (.float .f64 X2) := bkeep hb2 (by first | assumption | (simp [go_sem]; done) | (simp [*]; done) | (simp [go_sem, *]; done) | exact bkeep (bl_alloc (Below.refl _ _)) (by assumption) (by first | omega | (simp; done) | (simp; omega))) (by first | omega | (simp; done) | (simp; omega))
  have l2_3 : w.heap.size + 1 < w2.heap.size := (by omega)
  have c2_4_0 : w2.cell? ⟨w.heap.size + 1, 0, none⟩ = some (.float .f64 Y1) := bkeep hb2 (by first | assumption | (simp [go_sem]; done) | (simp [*]; done) | (simp [go_sem, *]; done) | exact bkeep (bl_alloc (Below.refl _ _)) (by assumption) (by first | omega | (simp; done) | (simp; omega))) (by first | omega | (simp; done) | (simp; omega))
  have c2_5_1 : w2.cell? ⟨w.heap.size + 1, 1, none⟩ = some (.float .f64 Y2) := bkeep hb2 (by first | assumption | (simp [go_sem]; done) | (simp [*]; done) | (simp [go_sem, *]; done) | exact bkeep (bl_alloc (Below.refl _ _)) (by assumption) (by first | omega | (simp; done) | (simp; omega))) (by first | omega | (simp; done) | (simp; omega))
  have l2_6 : w.heap.size + 1 + 1 < w2.heap.size := (by omega)
  have c2_7_0 : w2.cell? ⟨w.heap.size + 1 + 1, 0, none⟩ = some (.float .f64 0) := bkeep hb2 (by first | assumption | (simp [go_sem]; done) | (simp [*]; done) | (simp [go_sem, *]; done) | exact bkeep (bl_alloc (Below.refl _ _)) (by assumption) (by first | omega | (simp; done) | (simp; omega))) (by first | omega | (simp; done) | (simp; omega))
  have f2_7_0 : w2.frozen? ⟨w.heap.size + 1 + 1, 0, none⟩ = false := bfroz hb2 (by first | assumption | (simp [go_sem]; done) | (simp [*]; done) | (simp [go_sem, *]; done) | exact bfroz (bl_alloc (Below.refl _ _)) (by assumption) (by first | omega | (simp; done) | (simp; omega))) (by first | omega | (simp; done) | (simp; omega))
  have c2_8_1 : w2.cell? ⟨w.heap.size + 1 + 1, 1, none⟩ = some (.float .f64 0) := bkeep hb2 (by first | assumption | (simp [go_sem]; done) | (simp [*]; done) | (simp [go_sem, *]; done) | exact bkeep (bl_alloc (Below.refl _ _)) (by assumption) (by first | omega | (simp; done) | (simp; omega))) (by first | omega | (simp; done) | (simp; omega))
  have f2_8_1 : w2.frozen? ⟨w.heap.size + 1 + 1, 1, none⟩ = false := bfroz hb2 (by first | assumption | (simp [go_sem]; done) | (simp [*]; done) | (simp [go_sem, *]; done) | exact bfroz (bl_alloc (Below.refl _ _)) (by assumption) (by first | omega | (simp; done) | (simp; omega))) (by first | omega | (simp; done) | (simp; omega))
  clear l1_0 c1_1_0 c1_2_1 l1_3 c1_4_0 c1_5_1 l1_6 c1_7_0 f1_7_0 c1_8_1 f1_8_1
  go_wp2_with fail
  refine bodyPost_ret (v := .agg #[.float .f64 e1, .float .f64 e2]) (by simp [results, Tryz.results120, go_sem, *]) rfl ⟨rfl, ?_⟩
  repeat (first | exact Below.refl _ _ | assumption | refine Below.drew ?_ | refine bl_drewN ?_ _ | refine Below.setCell ?_ (by first | omega | (simp; done) | (simp; omega)) _ | refine Below.alloc ?_ (by first | omega | (simp; done) | (simp; omega)) _ | refine bl_next ?_ (by assumption) | refine bl_trans ?_ (by assumption) (by first | omega | (simp; done) | (simp; omega)))

theorem mul_noy_w (X1 X2 Y1 Y2 e1 e2 : Nat)
    (nx : ∀ w, Calls Tryz.prog 121 #[.agg #[.float .f64 X1, .float .f64 X2]] w fun e w' => e = .returned (.bool false) ∧ Below w.heap.size w w')
    (ny : ∀ w, Calls Tryz.prog 121 #[.agg #[.float .f64 Y1, .float .f64 Y2]] w fun e w' => e = .returned (.bool true) ∧ Below w.heap.size w w')
    (em : ∀ w, Calls Tryz.prog 145 #[] w fun e w' => e = .returned (.agg #[.float .f64 e1, .float .f64 e2]) ∧ Below w.heap.size w w') (w : World) :
    Calls Tryz.prog 120 #[.agg #[.float .f64 X1, .float .f64 X2], .agg #[.float .f64 Y1, .float .f64 Y2]] w fun e w' => e = .returned (.agg #[.float .f64 e1, .float .f64 e2]) ∧ Below w.heap.size w w' := by
  go_enter Tryz.func120, Tryz.ntmps120
  go_wp2_with fail
  go_at_call 121
  refine (nx _).mono ?_
  rintro e w1 ⟨rfl, hb1⟩
  have s1 := hb1.size
  try simp at s1
  have l1_0 : w.heap.size < w1.heap.size := (by omega)
  have c1_1_0 : w1.cell? ⟨w.heap.size, 0, none⟩ = some (.float .f64 X1) := bkeep hb1 (by first | assumption | (simp [go_sem]; done) | (simp [*]; done) | (simp [go_sem, *]; done) | exact bkeep (bl_alloc (Below.refl _ _)) (by assumption) (by first | omega | (simp; done) | (simp; omega))) (by first | omega | (simp; done) | (simp; omega))
  have c1_2_1 : w1.cell? ⟨w.heap.size, 1, none⟩ = some (.float .f64 X2) := bkeep hb1 (by first | assumption | (simp [go_sem]; done) | (simp [*]; done) | (simp [go_sem, *]; done) | exact bkeep (bl_alloc (Below.refl _ _)) (by assumption) (by first | omega | (simp; done) | (simp; omega))) (by first | omega | (simp; done) | (simp; omega))
  have l1_3 : w.heap.size + 1 < w1.heap.size := (by omega)
  have c1_4_0 : w1.cell? ⟨w.heap.size + 1, 0, none⟩ = some (.float .f64 Y1) := bkeep hb1 (by first | assumption | (simp [go_sem]; done) | (simp [*]; done) | (simp [go_sem, *]; done) | exact bkeep (bl_alloc (Below.refl _ _)) (by assumption) (by first | omega | (simp; done) | (simp; omega))) (by first | omega | (simp; done) | (simp; omega))
  have c1_5_1 : w1.cell? ⟨w.heap.size + 1, 1, none⟩ = some (.float .f64 Y2) := bkeep hb1 (by first | assumption | (simp [go_sem]; done) | (simp [*]; done) | (simp [go_sem, *]; done) | exact bkeep (bl_alloc (Below.refl _ _)) (by assumption) (by first | omega | (simp; done) | (simp; omega))) (by first | omega | (simp; done) | (simp; omega))
  have l1_6 : w.heap.size + 1 + 1 < w1.heap.size := (by omega)
  have c1_7_0 : w1.cell? ⟨w.heap.size + 1 + 1, 0, none⟩ = some (.float .f64 0) := bkeep hb1 (by first | assumption | (simp [go_sem]; done) | (simp [*]; done) | (simp [go_sem, *]; done) | exact bkeep (bl_alloc (Below.refl _ _)) (by assumption) (by first | omega | (simp; done) | (simp; omega))) (by first | omega | (simp; done) | (simp; omega))
  have f1_7_0 : w1.frozen? ⟨w.heap.size + 1 + 1, 0, none⟩ = false := bfroz hb1 (by first | assumption | (simp [go_sem]; done) | (simp [*]; done) | (simp [go_sem, *]; done) | exact bfroz (bl_alloc (Below.refl _ _)) (by assumption) (by first | omega | (simp; done) | (simp; omega))) (by first | omega | (simp; done) | (simp; omega))
  have c1_8_1 : w1.cell? ⟨w.heap.size + 1 + 1, 1, none⟩ = some (.float .f64 0) := bkeep hb1 (by first | assumption | (simp [go_sem]; done) | (simp [*]; done) | (simp [go_sem, *]; done) | exact bkeep (bl_alloc (Below.refl _ _)) (by assumption) (by first | omega | (simp; done) | (simp; omega))) (by first | omega | (simp; done) | (simp; omega))
  have f1_8_1 : w1.frozen? ⟨w.heap.size + 1 + 1, 1, none⟩ = false := bfroz hb1 (by first | assumption | (simp [go_sem]; done) | (simp [*]; done) | (simp [go_sem, *]; done) | exact bfroz (bl_alloc (Below.refl _ _)) (by assumption) (by first | omega | (simp; done) | (simp; omega))) (by first | omega | (simp; done) | (simp; omega))
  go_wp2_with fail
  go_at_call 121
  refine (ny _).mono ?_
  rintro e w2 ⟨rfl, hb2⟩
  have s2 := hb2.size
  try simp at s2
  have l2_0 : w.heap.size < w2.heap.size := (by omega)
  have c2_1_0 : w2.cell? ⟨w.heap.size, 0, none⟩ = some (.float .f64 X1) := bkeep hb2 (by first | assumption | (simp [go_sem]; done) | (simp [*]; done) | (simp [go_sem, *]; done) | exact bkeep (bl_alloc (Below.refl _ _)) (by assumption) (by first | omega | (simp; done) | (simp; omega))) (by first | omega | (simp; done) | (simp; omega))
  have c2_2_1 : w2.cell? ⟨w.heap.size, 1, none⟩ = some (.float .f64 X2) := bkeep hb2 (by first | assumption | (simp [go_sem]; done) | (simp [*]; done) | (simp [go_sem, *]; done) | exact bkeep (bl_alloc (Below.refl _ _)) (by assumption) (by first | omega | (simp; done) | (simp; omega))) (by first | omega | (simp; done) | (simp; omega))
  have l2_3 : w.heap.size + 1 < w2.heap.size := (by omega)
  have c2_4_0 : w2.cell? ⟨w.heap.size + 1, 0, none⟩ = some (.float .f64 Y1) := bkeep hb2 (by first | assumption | (simp [go_sem]; done) | (simp [*]; done) | (simp [go_sem, *]; done) | exact bkeep (bl_alloc (Below.refl _ _)) (by assumption) (by first | omega | (simp; done) | (simp; omega))) (by first | omega | (simp; done) | (simp; omega))
  have c2_5_1 : w2.cell? ⟨w.heap.size + 1, 1, none⟩ = some (.float .f64 Y2) := bkeep hb2 (by first | assumption | (simp [go_sem]; done) | (simp [*]; done) | (simp [go_sem, *]; done) | exact bkeep (bl_alloc (Below.refl _ _)) (by assumption) (by first | omega | (simp; done) | (simp; omega))) (by first | omega | (simp; done) | (simp; omega))
  have l2_6 : w.heap.size + 1 + 1 < w2.heap.size := (by omega)
  have c2_7_0 : w2.cell? ⟨w.heap.size + 1 + 1, 0, none⟩ = some (.float .f64 0) := bkeep hb2 (by first | assumption | (simp [go_sem]; done) | (simp [*]; done) | (simp [go_sem, *]; done) | exact bkeep (bl_alloc (Below.refl _ _)) (by assumption) (by first | omega | (simp; done) | (simp; omega))) (by first | omega | (simp; done) | (simp; omega))
  have f2_7_0 : w2.frozen? ⟨w.heap.size + 1 + 1, 0, none⟩ = false := bfroz hb2 (by first | assumption | (simp [go_sem]; done) | (simp [*]; done) | (simp [go_sem, *]; done) | exact bfroz (bl_alloc (Below.refl _ _)) (by assumption) (by first | omega | (simp; done) | (simp; omega))) (by first | omega | (simp; done) | (simp; omega))
  have c2_8_1 : w2.cell? ⟨w.heap.size + 1 + 1, 1, none⟩ = some (.float .f64 0) := bkeep hb2 (by first | assumption | (simp [go_sem]; done) | (simp [*]; done) | (simp [go_sem, *]; done) | exact bkeep (bl_alloc (Below.refl _ _)) (by assumption) (by first | omega | (simp; done) | (simp; omega))) (by first | omega | (simp; done) | (simp; omega))
  have f2_8_1 : w2.frozen? ⟨w.heap.size + 1 + 1, 1, none⟩ = false := bfroz hb2 (by first | assumption | (simp [go_sem]; done) | (simp [*]; done) | (simp [go_sem, *]; done) | exact bfroz (bl_alloc (Below.refl _ _)) (by assumption) (by first | omega | (simp; done) | (simp; omega))) (by first | omega | (simp; done) | (simp; omega))
  clear l1_0 c1_1_0 c1_2_1 l1_3 c1_4_0 c1_5_1 l1_6 c1_7_0 f1_7_0 c1_8_1 f1_8_1
  go_wp2_with fail
  go_at_call 145
  refine (em _).mono ?_
  rintro e w3 ⟨rfl, hb3⟩
  have s3 := hb3.size
  try simp at s3
  have l3_0 : w.heap.size < w3.heap.size := (by omega)
  have c3_1_0 : w3.cell? ⟨w.heap.size, 0, none⟩ = some (.float .f64 X1) := bkeep hb3 (by first | assumption | (simp [go_sem]; done) | (simp [*]; done) | (simp [go_sem, *]; done) | exact bkeep (bl_alloc (Below.refl _ _)) (by assumption) (by first | omega | (simp; done) | (simp; omega))) (by first | omega | (simp; done) | (simp; omega))
  have c3_2_1 : w3.cell? ⟨w.heap.size, 1, none⟩ = some (.float .f64 X2) := bkeep hb3 (by first | assumption | (simp [go_sem]; done) | (simp [*]; done) | (simp [go_sem, *]; done) | exact bkeep (bl_alloc (Below.refl _ _)) (by assumption) (by first | omega | (simp; done) | (simp; omega))) (by first | omega | (simp; done) | (simp; omega))
  have l3_3 : w.heap.size + 1 < w3.heap.size := (by omega)
  have c3_4_0 : w3.cell? ⟨w.heap.size + 1, 0, none⟩ = some (.float .f64 Y1) := bkeep hb3 (by first | assumption | (simp [go_sem]; done) | (simp [*]; done) | (simp [go_sem, *]; done) | exact bkeep (bl_alloc (Below.refl _ _)) (by assumption) (by first | omega | (simp; done) | (simp; omega))) (by first | omega | (simp; done) | (simp; omega))
  have c3_5_1 : w3.cell? ⟨w.heap.size + 1, 1, none⟩ = some (.float .f64 Y2) := bkeep hb3 (by first | assumption | (simp [go_sem]; done) | (simp [*]; done) | (simp [go_sem, *]; done) | exact bkeep (bl_alloc (Below.refl _ _)) (by assumption) (by first | omega | (simp; done) | (simp; omega))) (by first | omega | (simp; done) | (simp; omega))
  have l3_6 : w.heap.size + 1 + 1 < w3.heap.size := (by omega)
  have c3_7_0 : w3.cell? ⟨w.heap.size + 1 + 1, 0, none⟩ = some (.float .f64 0) := bkeep hb3 (by first | assumption | (simp [go_sem]; done) | (simp [*]; done) | (simp [go_sem, *]; done) | exact bkeep (bl_alloc (Below.refl _ _)) (by assumption) (by first | omega | (simp; done) | (simp; omega))) (by first | omega | (simp; done) | (simp; omega))
  have f3_7_0 : w3.frozen? ⟨w.heap.size + 1 + 1, 0, none⟩ = false := bfroz hb3 (by first | assumption | (simp [go_sem]; done) | (simp [*]; done) | (simp [go_sem, *]; done) | exact bfroz (bl_alloc (Below.refl _ _)) (by assumption) (by first | omega | (simp; done) | (simp; omega))) (by first | omega | (simp; done) | (simp; omega))
  have c3_8_1 : w3.cell? ⟨w.heap.size + 1 + 1, 1, none⟩ = some (.float .f64 0) := bkeep hb3 (by first | assumption | (simp [go_sem]; done) | (simp [*]; done) | (simp [go_sem, *]; done) | exact bkeep (bl_alloc (Below.refl _ _)) (by assumption) (by first | omega | (simp; done) | (simp; omega))) (by first | omega | (simp; done) | (simp; omega))
  have f3_8_1 : w3.frozen? ⟨w.heap.size + 1 + 1, 1, none⟩ = false := bfroz hb3 (by first | assumption | (simp [go_sem]; done) | (simp [*]; done) | (simp [go_sem, *]; done) | exact bfroz (bl_alloc (Below.refl _ _)) (by assumption) (by first | omega | (simp; done) | (simp; omega))) (by first | omega | (simp; done) | (simp; omega))
  clear l2_0 c2_1_0 c2_2_1 l2_3 c2_4_0 c2_5_1 l2_6 c2_7_0 f2_7_0 c2_8_1 f2_8_1
  go_wp2_with fail
  refine bodyPost_ret (v := .agg #[.float .f64 e1, .float .f64 e2]) (by simp [results, Tryz.results120, go_sem, *]) rfl ⟨rfl, ?_⟩
  repeat (first | exact Below.refl _ _ | assumption | refine Below.drew ?_ | refine bl_drewN ?_ _ | refine Below.setCell ?_ (by first | omega | (simp; done) | (simp; omega)) _ | refine Below.alloc ?_ (by first | omega | (simp; done) | (simp; omega)) _ | refine bl_next ?_ (by assumption) | refine bl_trans ?_ (by assumption) (by first | omega | (simp; done) | (simp; omega)))

end Go.Proofs.YtacnclofbnafiabGreatDoor
