import Derived.Test.YtacnclofbnafiaaK6
namespace Go.Proofs.Ytacnclofbnafiaa
open Go.RowKit Fl

theorem sizes_no_w (X1 X2 : Nat)
    (nx : ∀ w, Calls Try.prog 54 #[.agg #[.float .f64 X1, .float .f64 X2]] w fun e w' => e = .returned (.bool true) ∧ Below w.heap.size w w') (w : World) :
    Calls Try.prog 144 #[.agg #[.float .f64 X1, .float .f64 X2]] w fun e w' => e = .returned (.agg #[.float .f64 X1, .float .f64 X2]) ∧ Below w.heap.size w w' := by
  go_enter Try.func144, Try.ntmps144
  go_wp2_with fail
  go_at_call 54
  refine (nx _).mono ?_
  rintro e w1 ⟨rfl, hb1⟩
  have s1 := hb1.size
  try simp at s1
  have l1_0 : w.heap.size < w1.heap.size := (by omega)
  have c1_1_0 : w1.cell? ⟨w.heap.size, 0, none⟩ = some (.float .f64 X1) := bkeep hb1 (by first | assumption | (simp [go_sem]; done) | (simp [*]; done) | (simp [go_sem, *]; done) | exact bkeep (bl_alloc (Below.refl _ _)) (by assumption) (by first | omega | (simp; done) | (simp; omega))) (by first | omega | (simp; done) | (simp; omega))
  have c1_2_1 : w1.cell? ⟨w.heap.size, 1, none⟩ = some (.float .f64 X2) := bkeep hb1 (by first | assumption | (simp [go_sem]; done) | (simp [*]; done) | (simp [go_sem, *]; done) | exact bkeep (bl_alloc (Below.refl _ _)) (by assumption) (by first | omega | (simp; done) | (simp; omega))) (by first | omega | (simp; done) | (simp; omega))
  have l1_3 : w.heap.size + 1 < w1.heap.size := (by omega)
  have c1_4_0 : w1.cell? ⟨w.heap.size + 1, 0, none⟩ = some (.float .f64 0) := bkeep hb1 (by first | assumption | (simp [go_sem]; done) | (simp [*]; done) | (simp [go_sem, *]; done) | exact bkeep (bl_alloc (Below.refl _ _)) (by assumption) (by first | omega | (simp; done) | (simp; omega))) (by first | omega | (simp; done) | (simp; omega))
  have f1_4_0 : w1.frozen? ⟨w.heap.size + 1, 0, none⟩ = false := bfroz hb1 (by first | assumption | (simp [go_sem]; done) | (simp [*]; done) | (simp [go_sem, *]; done) | exact bfroz (bl_alloc (Below.refl _ _)) (by assumption) (by first | omega | (simp; done) | (simp; omega))) (by first | omega | (simp; done) | (simp; omega))
  have c1_5_1 : w1.cell? ⟨w.heap.size + 1, 1, none⟩ = some (.float .f64 0) := bkeep hb1 (by first | assumption | (simp [go_sem]; done) | (simp [*]; done) | (simp [go_sem, *]; done) | exact bkeep (bl_alloc (Below.refl _ _)) (by assumption) (by first | omega | (simp; done) | (simp; omega))) (by first | omega | (simp; done) | (simp; omega))
  have f1_5_1 : w1.frozen? ⟨w.heap.size + 1, 1, none⟩ = false := bfroz hb1 (by first | assumption | (simp [go_sem]; done) | (simp [*]; done) | (simp [go_sem, *]; done) | exact bfroz (bl_alloc (Below.refl _ _)) (by assumption) (by first | omega | (simp; done) | (simp; omega))) (by first | omega | (simp; done) | (simp; omega))
  go_wp2_with fail
  refine bodyPost_ret (v := .agg #[.float .f64 X1, .float .f64 X2]) (by simp [results, Try.results144, go_sem, *]) rfl ⟨rfl, ?_⟩
  repeat (first | exact Below.refl _ _ | assumption | refine Below.drew ?_ | refine bl_drewN ?_ _ | refine Below.setCell ?_ (by first | omega | (simp; done) | (simp; omega)) _ | refine Below.alloc ?_ (by first | omega | (simp; done) | (simp; omega)) _ | refine bl_next ?_ (by assumption) | refine bl_trans ?_ (by assumption) (by first | omega | (simp; done) | (simp; omega)))

theorem sizes_gt_w (X1 X2 : Nat)
    (nx : ∀ w, Calls Try.prog 54 #[.agg #[.float .f64 X1, .float .f64 X2]] w fun e w' => e = .returned (.bool false) ∧ Below w.heap.size w w')
    (o1 : Ieee.double.order X1 0 = some .gt) (w : World) :
    Calls Try.prog 144 #[.agg #[.float .f64 X1, .float .f64 X2]] w fun e w' => e = .returned (.agg #[.float .f64 X1, .float .f64 X2]) ∧ Below w.heap.size w w' := by
  go_enter Try.func144, Try.ntmps144
  go_wp2_with fail
  go_at_call 54
  refine (nx _).mono ?_
  rintro e w1 ⟨rfl, hb1⟩
  have s1 := hb1.size
  try simp at s1
  have l1_0 : w.heap.size < w1.heap.size := (by omega)
  have c1_1_0 : w1.cell? ⟨w.heap.size, 0, none⟩ = some (.float .f64 X1) := bkeep hb1 (by first | assumption | (simp [go_sem]; done) | (simp [*]; done) | (simp [go_sem, *]; done) | exact bkeep (bl_alloc (Below.refl _ _)) (by assumption) (by first | omega | (simp; done) | (simp; omega))) (by first | omega | (simp; done) | (simp; omega))
  have c1_2_1 : w1.cell? ⟨w.heap.size, 1, none⟩ = some (.float .f64 X2) := bkeep hb1 (by first | assumption | (simp [go_sem]; done) | (simp [*]; done) | (simp [go_sem, *]; done) | exact bkeep (bl_alloc (Below.refl _ _)) (by assumption) (by first | omega | (simp; done) | (simp; omega))) (by first | omega | (simp; done) | (simp; omega))
  have l1_3 : w.heap.size + 1 < w1.heap.size := (by omega)
  have c1_4_0 : w1.cell? ⟨w.heap.size + 1, 0, none⟩ = some (.float .f64 0) := bkeep hb1 (by first | assumption | (simp [go_sem]; done) | (simp [*]; done) | (simp [go_sem, *]; done) | exact bkeep (bl_alloc (Below.refl _ _)) (by assumption) (by first | omega | (simp; done) | (simp; omega))) (by first | omega | (simp; done) | (simp; omega))
  have f1_4_0 : w1.frozen? ⟨w.heap.size + 1, 0, none⟩ = false := bfroz hb1 (by first | assumption | (simp [go_sem]; done) | (simp [*]; done) | (simp [go_sem, *]; done) | exact bfroz (bl_alloc (Below.refl _ _)) (by assumption) (by first | omega | (simp; done) | (simp; omega))) (by first | omega | (simp; done) | (simp; omega))
  have c1_5_1 : w1.cell? ⟨w.heap.size + 1, 1, none⟩ = some (.float .f64 0) := bkeep hb1 (by first | assumption | (simp [go_sem]; done) | (simp [*]; done) | (simp [go_sem, *]; done) | exact bkeep (bl_alloc (Below.refl _ _)) (by assumption) (by first | omega | (simp; done) | (simp; omega))) (by first | omega | (simp; done) | (simp; omega))
  have f1_5_1 : w1.frozen? ⟨w.heap.size + 1, 1, none⟩ = false := bfroz hb1 (by first | assumption | (simp [go_sem]; done) | (simp [*]; done) | (simp [go_sem, *]; done) | exact bfroz (bl_alloc (Below.refl _ _)) (by assumption) (by first | omega | (simp; done) | (simp; omega))) (by first | omega | (simp; done) | (simp; omega))
  go_wp2_with fail
  refine bodyPost_ret (v := .agg #[.float .f64 X1, .float .f64 X2]) (by simp [results, Try.results144, go_sem, *]) rfl ⟨rfl, ?_⟩
  repeat (first | exact Below.refl _ _ | assumption | refine Below.drew ?_ | refine bl_drewN ?_ _ | refine Below.setCell ?_ (by first | omega | (simp; done) | (simp; omega)) _ | refine Below.alloc ?_ (by first | omega | (simp; done) | (simp; omega)) _ | refine bl_next ?_ (by assumption) | refine bl_trans ?_ (by assumption) (by first | omega | (simp; done) | (simp; omega)))

theorem sizes_eq_w (X1 X2 : Nat)
    (nx : ∀ w, Calls Try.prog 54 #[.agg #[.float .f64 X1, .float .f64 X2]] w fun e w' => e = .returned (.bool false) ∧ Below w.heap.size w w')
    (o1 : Ieee.double.order X1 0 = some .eq) (w : World) :
    Calls Try.prog 144 #[.agg #[.float .f64 X1, .float .f64 X2]] w fun e w' => e = .returned (.agg #[.float .f64 X1, .float .f64 X2]) ∧ Below w.heap.size w w' := by
  go_enter Try.func144, Try.ntmps144
  go_wp2_with fail
  go_at_call 54
  refine (nx _).mono ?_
  rintro e w1 ⟨rfl, hb1⟩
  have s1 := hb1.size
  try simp at s1
  have l1_0 : w.heap.size < w1.heap.size := (by omega)
  have c1_1_0 : w1.cell? ⟨w.heap.size, 0, none⟩ = some (.float .f64 X1) := bkeep hb1 (by first | assumption | (simp [go_sem]; done) | (simp [*]; done) | (simp [go_sem, *]; done) | exact bkeep (bl_alloc (Below.refl _ _)) (by assumption) (by first | omega | (simp; done) | (simp; omega))) (by first | omega | (simp; done) | (simp; omega))
  have c1_2_1 : w1.cell? ⟨w.heap.size, 1, none⟩ = some (.float .f64 X2) := bkeep hb1 (by first | assumption | (simp [go_sem]; done) | (simp [*]; done) | (simp [go_sem, *]; done) | exact bkeep (bl_alloc (Below.refl _ _)) (by assumption) (by first | omega | (simp; done) | (simp; omega))) (by first | omega | (simp; done) | (simp; omega))
  have l1_3 : w.heap.size + 1 < w1.heap.size := (by omega)
  have c1_4_0 : w1.cell? ⟨w.heap.size + 1, 0, none⟩ = some (.float .f64 0) := bkeep hb1 (by first | assumption | (simp [go_sem]; done) | (simp [*]; done) | (simp [go_sem, *]; done) | exact bkeep (bl_alloc (Below.refl _ _)) (by assumption) (by first | omega | (simp; done) | (simp; omega))) (by first | omega | (simp; done) | (simp; omega))
  have f1_4_0 : w1.frozen? ⟨w.heap.size + 1, 0, none⟩ = false := bfroz hb1 (by first | assumption | (simp [go_sem]; done) | (simp [*]; done) | (simp [go_sem, *]; done) | exact bfroz (bl_alloc (Below.refl _ _)) (by assumption) (by first | omega | (simp; done) | (simp; omega))) (by first | omega | (simp; done) | (simp; omega))
  have c1_5_1 : w1.cell? ⟨w.heap.size + 1, 1, none⟩ = some (.float .f64 0) := bkeep hb1 (by first | assumption | (simp [go_sem]; done) | (simp [*]; done) | (simp [go_sem, *]; done) | exact bkeep (bl_alloc (Below.refl _ _)) (by assumption) (by first | omega | (simp; done) | (simp; omega))) (by first | omega | (simp; done) | (simp; omega))
  have f1_5_1 : w1.frozen? ⟨w.heap.size + 1, 1, none⟩ = false := bfroz hb1 (by first | assumption | (simp [go_sem]; done) | (simp [*]; done) | (simp [go_sem, *]; done) | exact bfroz (bl_alloc (Below.refl _ _)) (by assumption) (by first | omega | (simp; done) | (simp; omega))) (by first | omega | (simp; done) | (simp; omega))
  go_wp2_with fail
  refine bodyPost_ret (v := .agg #[.float .f64 X1, .float .f64 X2]) (by simp [results, Try.results144, go_sem, *]) rfl ⟨rfl, ?_⟩
  repeat (first | exact Below.refl _ _ | assumption | refine Below.drew ?_ | refine bl_drewN ?_ _ | refine Below.setCell ?_ (by first | omega | (simp; done) | (simp; omega)) _ | refine Below.alloc ?_ (by first | omega | (simp; done) | (simp; omega)) _ | refine bl_next ?_ (by assumption) | refine bl_trans ?_ (by assumption) (by first | omega | (simp; done) | (simp; omega)))

theorem sizes_neg_lt_w (X1 X2 a b : Nat)
    (nx : ∀ w, Calls Try.prog 54 #[.agg #[.float .f64 X1, .float .f64 X2]] w fun e w' => e = .returned (.bool false) ∧ Below w.heap.size w w')
    (o1 : Ieee.double.order X1 0 = some .lt)
    (o2 : Ieee.double.order X2 0 = some .lt)
    (n1 : ∀ w, Calls Try.prog 138 #[.agg #[.float .f64 X1, .float .f64 X2]] w fun e w' => e = .returned (.agg #[.float .f64 a, .float .f64 b]) ∧ Below w.heap.size w w') (w : World) :
    Calls Try.prog 144 #[.agg #[.float .f64 X1, .float .f64 X2]] w fun e w' => e = .returned (.agg #[.float .f64 a, .float .f64 b]) ∧ Below w.heap.size w w' := by
  go_enter Try.func144, Try.ntmps144
  go_wp2_with fail
  go_at_call 54
  refine (nx _).mono ?_
  rintro e w1 ⟨rfl, hb1⟩
  have s1 := hb1.size
  try simp at s1
  have l1_0 : w.heap.size < w1.heap.size := (by omega)
  have c1_1_0 : w1.cell? ⟨w.heap.size, 0, none⟩ = some (.float .f64 X1) := bkeep hb1 (by first | assumption | (simp [go_sem]; done) | (simp [*]; done) | (simp [go_sem, *]; done) | exact bkeep (bl_alloc (Below.refl _ _)) (by assumption) (by first | omega | (simp; done) | (simp; omega))) (by first | omega | (simp; done) | (simp; omega))
  have c1_2_1 : w1.cell? ⟨w.heap.size, 1, none⟩ = some (.float .f64 X2) := bkeep hb1 (by first | assumption | (simp [go_sem]; done) | (simp [*]; done) | (simp [go_sem, *]; done) | exact bkeep (bl_alloc (Below.refl _ _)) (by assumption) (by first | omega | (simp; done) | (simp; omega))) (by first | omega | (simp; done) | (simp; omega))
  have l1_3 : w.heap.size + 1 < w1.heap.size := (by omega)
  have c1_4_0 : w1.cell? ⟨w.heap.size + 1, 0, none⟩ = some (.float .f64 0) := bkeep hb1 (by first | assumption | (simp [go_sem]; done) | (simp [*]; done) | (simp [go_sem, *]; done) | exact bkeep (bl_alloc (Below.refl _ _)) (by assumption) (by first | omega | (simp; done) | (simp; omega))) (by first | omega | (simp; done) | (simp; omega))
  have f1_4_0 : w1.frozen? ⟨w.heap.size + 1, 0, none⟩ = false := bfroz hb1 (by first | assumption | (simp [go_sem]; done) | (simp [*]; done) | (simp [go_sem, *]; done) | exact bfroz (bl_alloc (Below.refl _ _)) (by assumption) (by first | omega | (simp; done) | (simp; omega))) (by first | omega | (simp; done) | (simp; omega))
  have c1_5_1 : w1.cell? ⟨w.heap.size + 1, 1, none⟩ = some (.float .f64 0) := bkeep hb1 (by first | assumption | (simp [go_sem]; done) | (simp [*]; done) | (simp [go_sem, *]; done) | exact bkeep (bl_alloc (Below.refl _ _)) (by assumption) (by first | omega | (simp; done) | (simp; omega))) (by first | omega | (simp; done) | (simp; omega))
  have f1_5_1 : w1.frozen? ⟨w.heap.size + 1, 1, none⟩ = false := bfroz hb1 (by first | assumption | (simp [go_sem]; done) | (simp [*]; done) | (simp [go_sem, *]; done) | exact bfroz (bl_alloc (Below.refl _ _)) (by assumption) (by first | omega | (simp; done) | (simp; omega))) (by first | omega | (simp; done) | (simp; omega))
  go_wp2_with fail
  go_at_call 138
  refine (n1 _).mono ?_
  rintro e w2 ⟨rfl, hb2⟩
  have s2 := hb2.size
  try simp at s2
  have l2_0 : w.heap.size < w2.heap.size := (by omega)
  have c2_1_0 : w2.cell? ⟨w.heap.size, 0, none⟩ = some (.float .f64 X1) := bkeep hb2 (by first | assumption | (simp [go_sem]; done) | (simp [*]; done) | (simp [go_sem, *]; done) | exact bkeep (bl_alloc (Below.refl _ _)) (by assumption) (by first | omega | (simp; done) | (simp; omega))) (by first | omega | (simp; done) | (simp; omega))
  have c2_2_1 : w2.cell? ⟨w.heap.size, 1, none⟩ = some (.float .f64 X2) := bkeep hb2 (by first | assumption | (simp [go_sem]; done) | (simp [*]; done) | (simp [go_sem, *]; done) | exact bkeep (bl_alloc (Below.refl _ _)) (by assumption) (by first | omega | (simp; done) | (simp; omega))) (by first | omega | (simp; done) | (simp; omega))
  have l2_3 : w.heap.size + 1 < w2.heap.size := (by omega)
  have c2_4_0 : w2.cell? ⟨w.heap.size + 1, 0, none⟩ = some (.float .f64 0) := bkeep hb2 (by first | assumption | (simp [go_sem]; done) | (simp [*]; done) | (simp [go_sem, *]; done) | exact bkeep (bl_alloc (Below.refl _ _)) (by assumption) (by first | omega | (simp; done) | (simp; omega))) (by first | omega | (simp; done) | (simp; omega))
  have f2_4_0 : w2.frozen? ⟨w.heap.size + 1, 0, none⟩ = false := bfroz hb2 (by first | assumption | (simp [go_sem]; done) | (simp [*]; done) | (simp [go_sem, *]; done) | exact bfroz (bl_alloc (Below.refl _ _)) (by assumption) (by first | omega | (simp; done) | (simp; omega))) (by first | omega | (simp; done) | (simp; omega))
  have c2_5_1 : w2.cell? ⟨w.heap.size + 1, 1, none⟩ = some (.float .f64 0) := bkeep hb2 (by first | assumption | (simp [go_sem]; done) | (simp [*]; done) | (simp [go_sem, *]; done) | exact bkeep (bl_alloc (Below.refl _ _)) (by assumption) (by first | omega | (simp; done) | (simp; omega))) (by first | omega | (simp; done) | (simp; omega))
  have f2_5_1 : w2.frozen? ⟨w.heap.size + 1, 1, none⟩ = false := bfroz hb2 (by first | assumption | (simp [go_sem]; done) | (simp [*]; done) | (simp [go_sem, *]; done) | exact bfroz (bl_alloc (Below.refl _ _)) (by assumption) (by first | omega | (simp; done) | (simp; omega))) (by first | omega | (simp; done) | (simp; omega))
  clear l1_0 c1_1_0 c1_2_1 l1_3 c1_4_0 f1_4_0 c1_5_1 f1_5_1
  go_wp2_with fail
  refine bodyPost_ret (v := .agg #[.float .f64 a, .float .f64 b]) (by simp [results, Try.results144, go_sem, *]) rfl ⟨rfl, ?_⟩
  repeat (first | exact Below.refl _ _ | assumption | refine Below.drew ?_ | refine bl_drewN ?_ _ | refine Below.setCell ?_ (by first | omega | (simp; done) | (simp; omega)) _ | refine Below.alloc ?_ (by first | omega | (simp; done) | (simp; omega)) _ | refine bl_next ?_ (by assumption) | refine bl_trans ?_ (by assumption) (by first | omega | (simp; done) | (simp; omega)))

theorem sizes_neg_le_w (X1 X2 a b : Nat)
    (nx : ∀ w, Calls Try.prog 54 #[.agg #[.float .f64 X1, .float .f64 X2]] w fun e w' => e = .returned (.bool false) ∧ Below w.heap.size w w')
    (o1 : Ieee.double.order X1 0 = some .lt)
    (o2 : Ieee.double.order X2 0 = some .eq)
    (n1 : ∀ w, Calls Try.prog 138 #[.agg #[.float .f64 X1, .float .f64 X2]] w fun e w' => e = .returned (.agg #[.float .f64 a, .float .f64 b]) ∧ Below w.heap.size w w') (w : World) :
    Calls Try.prog 144 #[.agg #[.float .f64 X1, .float .f64 X2]] w fun e w' => e = .returned (.agg #[.float .f64 a, .float .f64 b]) ∧ Below w.heap.size w w' := by
  go_enter Try.func144, Try.ntmps144
  go_wp2_with fail
  go_at_call 54
  refine (nx _).mono ?_
  rintro e w1 ⟨rfl, hb1⟩
  have s1 := hb1.size
  try simp at s1
  have l1_0 : w.heap.size < w1.heap.size := (by omega)
  have c1_1_0 : w1.cell? ⟨w.heap.size, 0, none⟩ = some (.float .f64 X1) := bkeep hb1 (by first | assumption | (simp [go_sem]; done) | (simp [*]; done) | (simp [go_sem, *]; done) | exact bkeep (bl_alloc (Below.refl _ _)) (by assumption) (by first | omega | (simp; done) | (simp; omega))) (by first | omega | (simp; done) | (simp; omega))
  have c1_2_1 : w1.cell? ⟨w.heap.size, 1, none⟩ = some (.float .f64 X2) := bkeep hb1 (by first | assumption | (simp [go_sem]; done) | (simp [*]; done) | (simp [go_sem, *]; done) | exact bkeep (bl_alloc (Below.refl _ _)) (by assumption) (by first | omega | (simp; done) | (simp; omega))) (by first | omega | (simp; done) | (simp; omega))
  have l1_3 : w.heap.size + 1 < w1.heap.size := (by omega)
  have c1_4_0 : w1.cell? ⟨w.heap.size + 1, 0, none⟩ = some (.float .f64 0) := bkeep hb1 (by first | assumption | (simp [go_sem]; done) | (simp [*]; done) | (simp [go_sem, *]; done) | exact bkeep (bl_alloc (Below.refl _ _)) (by assumption) (by first | omega | (simp; done) | (simp; omega))) (by first | omega | (simp; done) | (simp; omega))
  have f1_4_0 : w1.frozen? ⟨w.heap.size + 1, 0, none⟩ = false := bfroz hb1 (by first | assumption | (simp [go_sem]; done) | (simp [*]; done) | (simp [go_sem, *]; done) | exact bfroz (bl_alloc (Below.refl _ _)) (by assumption) (by first | omega | (simp; done) | (simp; omega))) (by first | omega | (simp; done) | (simp; omega))
  have c1_5_1 : w1.cell? ⟨w.heap.size + 1, 1, none⟩ = some (.float .f64 0) := bkeep hb1 (by first | assumption | (simp [go_sem]; done) | (simp [*]; done) | (simp [go_sem, *]; done) | exact bkeep (bl_alloc (Below.refl _ _)) (by assumption) (by first | omega | (simp; done) | (simp; omega))) (by first | omega | (simp; done) | (simp; omega))
  have f1_5_1 : w1.frozen? ⟨w.heap.size + 1, 1, none⟩ = false := bfroz hb1 (by first | assumption | (simp [go_sem]; done) | (simp [*]; done) | (simp [go_sem, *]; done) | exact bfroz (bl_alloc (Below.refl _ _)) (by assumption) (by first | omega | (simp; done) | (simp; omega))) (by first | omega | (simp; done) | (simp; omega))
  go_wp2_with fail
  go_at_call 138
  refine (n1 _).mono ?_
  rintro e w2 ⟨rfl, hb2⟩
  have s2 := hb2.size
  try simp at s2
  have l2_0 : w.heap.size < w2.heap.size := (by omega)
  have c2_1_0 : w2.cell? ⟨w.heap.size, 0, none⟩ = some (.float .f64 X1) := bkeep hb2 (by first | assumption | (simp [go_sem]; done) | (simp [*]; done) | (simp [go_sem, *]; done) | exact bkeep (bl_alloc (Below.refl _ _)) (by assumption) (by first | omega | (simp; done) | (simp; omega))) (by first | omega | (simp; done) | (simp; omega))
  have c2_2_1 : w2.cell? ⟨w.heap.size, 1, none⟩ = some (.float .f64 X2) := bkeep hb2 (by first | assumption | (simp [go_sem]; done) | (simp [*]; done) | (simp [go_sem, *]; done) | exact bkeep (bl_alloc (Below.refl _ _)) (by assumption) (by first | omega | (simp; done) | (simp; omega))) (by first | omega | (simp; done) | (simp; omega))
  have l2_3 : w.heap.size + 1 < w2.heap.size := (by omega)
  have c2_4_0 : w2.cell? ⟨w.heap.size + 1, 0, none⟩ = some (.float .f64 0) := bkeep hb2 (by first | assumption | (simp [go_sem]; done) | (simp [*]; done) | (simp [go_sem, *]; done) | exact bkeep (bl_alloc (Below.refl _ _)) (by assumption) (by first | omega | (simp; done) | (simp; omega))) (by first | omega | (simp; done) | (simp; omega))
  have f2_4_0 : w2.frozen? ⟨w.heap.size + 1, 0, none⟩ = false := bfroz hb2 (by first | assumption | (simp [go_sem]; done) | (simp [*]; done) | (simp [go_sem, *]; done) | exact bfroz (bl_alloc (Below.refl _ _)) (by assumption) (by first | omega | (simp; done) | (simp; omega))) (by first | omega | (simp; done) | (simp; omega))
  have c2_5_1 : w2.cell? ⟨w.heap.size + 1, 1, none⟩ = some (.float .f64 0) := bkeep hb2 (by first | assumption | (simp [go_sem]; done) | (simp [*]; done) | (simp [go_sem, *]; done) | exact bkeep (bl_alloc (Below.refl _ _)) (by assumption) (by first | omega | (simp; done) | (simp; omega))) (by first | omega | (simp; done) | (simp; omega))
  have f2_5_1 : w2.frozen? ⟨w.heap.size + 1, 1, none⟩ = false := bfroz hb2 (by first | assumption | (simp [go_sem]; done) | (simp [*]; done) | (simp [go_sem, *]; done) | exact bfroz (bl_alloc (Below.refl _ _)) (by assumption) (by first | omega | (simp; done) | (simp; omega))) (by first | omega | (simp; done) | (simp; omega))
  clear l1_0 c1_1_0 c1_2_1 l1_3 c1_4_0 f1_4_0 c1_5_1 f1_5_1
  go_wp2_with fail
  refine bodyPost_ret (v := .agg #[.float .f64 a, .float .f64 b]) (by simp [results, Try.results144, go_sem, *]) rfl ⟨rfl, ?_⟩
  repeat (first | exact Below.refl _ _ | assumption | refine Below.drew ?_ | refine bl_drewN ?_ _ | refine Below.setCell ?_ (by first | omega | (simp; done) | (simp; omega)) _ | refine Below.alloc ?_ (by first | omega | (simp; done) | (simp; omega)) _ | refine bl_next ?_ (by assumption) | refine bl_trans ?_ (by assumption) (by first | omega | (simp; done) | (simp; omega)))

theorem sizes_amid_w (X1 X2 X1n m : Nat)
    (nx : ∀ w, Calls Try.prog 54 #[.agg #[.float .f64 X1, .float .f64 X2]] w fun e w' => e = .returned (.bool false) ∧ Below w.heap.size w w')
    (o1 : Ieee.double.order X1 0 = some .lt)
    (o2 : Ieee.double.order X2 0 = some .gt)
    (hn : Op.unary .neg (.float .f64 X1) = pure (.float .f64 X1n))
    (hM : ∀ ts t w, (Builtin.max_ ts t #[.float .f64 X1n, .float .f64 X2]).run Try.prog w = .ok (.float .f64 m) w) (w : World) :
    Calls Try.prog 144 #[.agg #[.float .f64 X1, .float .f64 X2]] w fun e w' => e = .returned (.agg #[.float .f64 0, .float .f64 m]) ∧ Below w.heap.size w w' := by
  go_enter Try.func144, Try.ntmps144
  go_wp2_with fail
  go_at_call 54
  refine (nx _).mono ?_
  rintro e w1 ⟨rfl, hb1⟩
  have s1 := hb1.size
  try simp at s1
  have l1_0 : w.heap.size < w1.heap.size := (by omega)
  have c1_1_0 : w1.cell? ⟨w.heap.size, 0, none⟩ = some (.float .f64 X1) := bkeep hb1 (by first | assumption | (simp [go_sem]; done) | (simp [*]; done) | (simp [go_sem, *]; done) | exact bkeep (bl_alloc (Below.refl _ _)) (by assumption) (by first | omega | (simp; done) | (simp; omega))) (by first | omega | (simp; done) | (simp; omega))
  have c1_2_1 : w1.cell? ⟨w.heap.size, 1, none⟩ = some (.float .f64 X2) := bkeep hb1 (by first | assumption | (simp [go_sem]; done) | (simp [*]; done) | (simp [go_sem, *]; done) | exact bkeep (bl_alloc (Below.refl _ _)) (by assumption) (by first | omega | (simp; done) | (simp; omega))) (by first | omega | (simp; done) | (simp; omega))
  have l1_3 : w.heap.size + 1 < w1.heap.size := (by omega)
  have c1_4_0 : w1.cell? ⟨w.heap.size + 1, 0, none⟩ = some (.float .f64 0) := bkeep hb1 (by first | assumption | (simp [go_sem]; done) | (simp [*]; done) | (simp [go_sem, *]; done) | exact bkeep (bl_alloc (Below.refl _ _)) (by assumption) (by first | omega | (simp; done) | (simp; omega))) (by first | omega | (simp; done) | (simp; omega))
  have f1_4_0 : w1.frozen? ⟨w.heap.size + 1, 0, none⟩ = false := bfroz hb1 (by first | assumption | (simp [go_sem]; done) | (simp [*]; done) | (simp [go_sem, *]; done) | exact bfroz (bl_alloc (Below.refl _ _)) (by assumption) (by first | omega | (simp; done) | (simp; omega))) (by first | omega | (simp; done) | (simp; omega))
  have c1_5_1 : w1.cell? ⟨w.heap.size + 1, 1, none⟩ = some (.float .f64 0) := bkeep hb1 (by first | assumption | (simp [go_sem]; done) | (simp [*]; done) | (simp [go_sem, *]; done) | exact bkeep (bl_alloc (Below.refl _ _)) (by assumption) (by first | omega | (simp; done) | (simp; omega))) (by first | omega | (simp; done) | (simp; omega))
  have f1_5_1 : w1.frozen? ⟨w.heap.size + 1, 1, none⟩ = false := bfroz hb1 (by first | assumption | (simp [go_sem]; done) | (simp [*]; done) | (simp [go_sem, *]; done) | exact bfroz (bl_alloc (Below.refl _ _)) (by assumption) (by first | omega | (simp; done) | (simp; omega))) (by first | omega | (simp; done) | (simp; omega))
  go_wp2_with fail
  refine bodyPost_ret (v := .agg #[.float .f64 0, .float .f64 m]) (by simp [results, Try.results144, go_sem, *]) rfl ⟨rfl, ?_⟩
  repeat (first | exact Below.refl _ _ | assumption | refine Below.drew ?_ | refine bl_drewN ?_ _ | refine Below.setCell ?_ (by first | omega | (simp; done) | (simp; omega)) _ | refine Below.alloc ?_ (by first | omega | (simp; done) | (simp; omega)) _ | refine bl_next ?_ (by assumption) | refine bl_trans ?_ (by assumption) (by first | omega | (simp; done) | (simp; omega)))

theorem sqr_w (X1 X2 a b c d : Nat)
    (s1 : ∀ w, Calls Try.prog 144 #[.agg #[.float .f64 X1, .float .f64 X2]] w fun e w' => e = .returned (.agg #[.float .f64 a, .float .f64 b]) ∧ Below w.heap.size w w')
    (m1 : ∀ w, Calls Try.prog 102 #[.agg #[.float .f64 a, .float .f64 b], .agg #[.float .f64 a, .float .f64 b]] w fun e w' => e = .returned (.agg #[.float .f64 c, .float .f64 d]) ∧ Below w.heap.size w w') (w : World) :
    Calls Try.prog 107 #[.agg #[.float .f64 X1, .float .f64 X2]] w fun e w' => e = .returned (.agg #[.float .f64 c, .float .f64 d]) ∧ Below w.heap.size w w' := by
  go_enter Try.func107, Try.ntmps107
  go_wp2_with fail
  go_at_call 144
  refine (s1 _).mono ?_
  rintro e w1 ⟨rfl, hb1⟩
  have s1 := hb1.size
  try simp at s1
  have l1_0 : w.heap.size < w1.heap.size := (by omega)
  have c1_1_0 : w1.cell? ⟨w.heap.size, 0, none⟩ = some (.float .f64 X1) := bkeep hb1 (by first | assumption | (simp [go_sem]; done) | (simp [*]; done) | (simp [go_sem, *]; done) | exact bkeep (bl_alloc (Below.refl _ _)) (by assumption) (by first | omega | (simp; done) | (simp; omega))) (by first | omega | (simp; done) | (simp; omega))
  have c1_2_1 : w1.cell? ⟨w.heap.size, 1, none⟩ = some (.float .f64 X2) := bkeep hb1 (by first | assumption | (simp [go_sem]; done) | (simp [*]; done) | (simp [go_sem, *]; done) | exact bkeep (bl_alloc (Below.refl _ _)) (by assumption) (by first | omega | (simp; done) | (simp; omega))) (by first | omega | (simp; done) | (simp; omega))
  have l1_3 : w.heap.size + 1 < w1.heap.size := (by omega)
  have c1_4_0 : w1.cell? ⟨w.heap.size + 1, 0, none⟩ = some (.float .f64 0) := bkeep hb1 (by first | assumption | (simp [go_sem]; done) | (simp [*]; done) | (simp [go_sem, *]; done) | exact bkeep (bl_alloc (Below.refl _ _)) (by assumption) (by first | omega | (simp; done) | (simp; omega))) (by first | omega | (simp; done) | (simp; omega))
  have f1_4_0 : w1.frozen? ⟨w.heap.size + 1, 0, none⟩ = false := bfroz hb1 (by first | assumption | (simp [go_sem]; done) | (simp [*]; done) | (simp [go_sem, *]; done) | exact bfroz (bl_alloc (Below.refl _ _)) (by assumption) (by first | omega | (simp; done) | (simp; omega))) (by first | omega | (simp; done) | (simp; omega))
  have c1_5_1 : w1.cell? ⟨w.heap.size + 1, 1, none⟩ = some (.float .f64 0) := bkeep hb1 (by first | assumption | (simp [go_sem]; done) | (simp [*]; done) | (simp [go_sem, *]; done) | exact bkeep (bl_alloc (Below.refl _ _)) (by assumption) (by first | omega | (simp; done) | (simp; omega))) (by first | omega | (simp; done) | (simp; omega))
  have f1_5_1 : w1.frozen? ⟨w.heap.size + 1, 1, none⟩ = false := bfroz hb1 (by first | assumption | (simp [go_sem]; done) | (simp [*]; done) | (simp [go_sem, *]; done) | exact bfroz (bl_alloc (Below.refl _ _)) (by assumption) (by first | omega | (simp; done) | (simp; omega))) (by first | omega | (simp; done) | (simp; omega))
  go_wp2_with fail
  go_at_call 102
  refine (m1 _).mono ?_
  rintro e w2 ⟨rfl, hb2⟩
  have s2 := hb2.size
  try simp at s2
  have l2_0 : w.heap.size < w2.heap.size := (by omega)
  have c2_1_0 : w2.cell? ⟨w.heap.size, 0, none⟩ = some (.float .f64 X1) := bkeep hb2 (by first | assumption | (simp [go_sem]; done) | (simp [*]; done) | (simp [go_sem, *]; done) | exact bkeep (bl_alloc (Below.refl _ _)) (by assumption) (by first | omega | (simp; done) | (simp; omega))) (by first | omega | (simp; done) | (simp; omega))
  have c2_2_1 : w2.cell? ⟨w.heap.size, 1, none⟩ = some (.float .f64 X2) := bkeep hb2 (by first | assumption | (simp [go_sem]; done) | (simp [*]; done) | (simp [go_sem, *]; done) | exact bkeep (bl_alloc (Below.refl _ _)) (by assumption) (by first | omega | (simp; done) | (simp; omega))) (by first | omega | (simp; done) | (simp; omega))
  have l2_3 : w.heap.size + 1 < w2.heap.size := (by omega)
  have c2_4_0 : w2.cell? ⟨w.heap.size + 1, 0, none⟩ = some (.float .f64 0) := bkeep hb2 (by first | assumption | (simp [go_sem]; done) | (simp [*]; done) | (simp [go_sem, *]; done) | exact bkeep (bl_alloc (Below.refl _ _)) (by assumption) (by first | omega | (simp; done) | (simp; omega))) (by first | omega | (simp; done) | (simp; omega))
  have f2_4_0 : w2.frozen? ⟨w.heap.size + 1, 0, none⟩ = false := bfroz hb2 (by first | assumption | (simp [go_sem]; done) | (simp [*]; done) | (simp [go_sem, *]; done) | exact bfroz (bl_alloc (Below.refl _ _)) (by assumption) (by first | omega | (simp; done) | (simp; omega))) (by first | omega | (simp; done) | (simp; omega))
  have c2_5_1 : w2.cell? ⟨w.heap.size + 1, 1, none⟩ = some (.float .f64 0) := bkeep hb2 (by first | assumption | (simp [go_sem]; done) | (simp [*]; done) | (simp [go_sem, *]; done) | exact bkeep (bl_alloc (Below.refl _ _)) (by assumption) (by first | omega | (simp; done) | (simp; omega))) (by first | omega | (simp; done) | (simp; omega))
  have f2_5_1 : w2.frozen? ⟨w.heap.size + 1, 1, none⟩ = false := bfroz hb2 (by first | assumption | (simp [go_sem]; done) | (simp [*]; done) | (simp [go_sem, *]; done) | exact bfroz (bl_alloc (Below.refl _ _)) (by assumption) (by first | omega | (simp; done) | (simp; omega))) (by first | omega | (simp; done) | (simp; omega))
  clear l1_0 c1_1_0 c1_2_1 l1_3 c1_4_0 f1_4_0 c1_5_1 f1_5_1
  go_wp2_with fail
  refine bodyPost_ret (v := .agg #[.float .f64 c, .float .f64 d]) (by simp [results, Try.results107, go_sem, *]) rfl ⟨rfl, ?_⟩
  repeat (first | exact Below.refl _ _ | assumption | refine Below.drew ?_ | refine bl_drewN ?_ _ | refine Below.setCell ?_ (by first | omega | (simp; done) | (simp; omega)) _ | refine Below.alloc ?_ (by first | omega | (simp; done) | (simp; omega)) _ | refine bl_next ?_ (by assumption) | refine bl_trans ?_ (by assumption) (by first | omega | (simp; done) | (simp; omega)))

theorem meet_nox_w (X1 X2 Y1 Y2 e1 e2 : Nat)
    (nx : ∀ w, Calls Try.prog 54 #[.agg #[.float .f64 X1, .float .f64 X2]] w fun e w' => e = .returned (.bool true) ∧ Below w.heap.size w w')
    (em : ∀ w, Calls Try.prog 137 #[] w fun e w' => e = .returned (.agg #[.float .f64 e1, .float .f64 e2]) ∧ Below w.heap.size w w') (w : World) :
    Calls Try.prog 109 #[.agg #[.float .f64 X1, .float .f64 X2], .agg #[.float .f64 Y1, .float .f64 Y2]] w fun e w' => e = .returned (.agg #[.float .f64 e1, .float .f64 e2]) ∧ Below w.heap.size w w' := by
  go_enter Try.func109, Try.ntmps109
  go_wp2_with fail
  go_at_call 54
  refine (nx _).mono ?_
  rintro e w1 ⟨rfl, hb1⟩
  have s1 := hb1.size
  try simp at s1
  have l1_0 : w.heap.size < w1.heap.size := (by omega)
  have c1_1_0 : w1.cell? ⟨w.heap.size, 0, none⟩ = some (.float .f64 X1) := bkeep hb1 (by first | assumption | (simp [go_sem]; done) | (simp [*]; done) | (simp [go_sem, *]; done) | exact bkeep (bl_alloc (Below.refl _ _)) (by assumption) (by first | omega | (simp; done) | (simp; omega))) (by first | omega | (simp; done) | (simp; omega))
  have c1_2_1 : w1.cell? ⟨w.heap.size, 1, none⟩ = some (.float .f64 X2) := bkeep hb1 (by first | assumption | (simp [go_sem]; done) | (simp [*]; done) | (simp [go_sem, *]; done) | exact bkeep (bl_alloc (Below.refl _ _)) (by assumption) (by first | omega | (simp; done) | (simp; omega))) (by first | omega | (simp; done) | (simp; omega))
  have l1_3 : w.heap.size + 1 < w1.heap.size := (by omega)
  have c1_4_0 : w1.cell? ⟨w.heap.size + 1, 0, none⟩ = some (.float .f64 Y1) := bkeep hb1 (by first | assumption | (simp [go_sem]; done) | (simp [*]; done) | (simp [go_sem, *]; done) | exact bkeep (bl_alloc (Below.refl _ _)) (by assumption) (by first | omega | (simp; done) | (simp; omega))) (by first | omega | (simp; done) | (simp; omega))
  have c1_5_1 : w1.cell? ⟨w.heap.size + 1, 1, none⟩ = some (.float .f64 Y2) := bkeep hb1 (by first | assumption | (simp [go_sem]; done) | (simp [*]; done) | (simp [go_sem, *]; done) | exact bkeep (bl_alloc (Below.refl _ _)) (by assumption) (by first | omega | (simp; done) | (simp; omega))) (by first | omega | (simp; done) | (simp; omega))
  have l1_6 : w.heap.size + 1 + 1 < w1.heap.size := (by omega)
  have c1_7_0 : w1.cell? ⟨w.heap.size + 1 + 1, 0, none⟩ = some (.float .f64 0) := bkeep hb1 (by first | assumption | (simp [go_sem]; done) | (simp [*]; done) | (simp [go_sem, *]; done) | exact bkeep (bl_alloc (Below.refl _ _)) (by assumption) (by first | omega | (simp; done) | (simp; omega))) (by first | omega | (simp; done) | (simp; omega))
  have f1_7_0 : w1.frozen? ⟨w.heap.size + 1 + 1, 0, none⟩ = false := bfroz hb1 (by first | assumption | (simp [go_sem]; done) | (simp [*]; done) | (simp [go_sem, *]; done) | exact bfroz (bl_alloc (Below.refl _ _)) (by assumption) (by first | omega | (simp; done) | (simp; omega))) (by first | omega | (simp; done) | (simp; omega))
  have c1_8_1 : w1.cell? ⟨w.heap.size + 1 + 1, 1, none⟩ = some (.float .f64 0) := bkeep hb1 (by first | assumption | (simp [go_sem]; done) | (simp [*]; done) | (simp [go_sem, *]; done) | exact bkeep (bl_alloc (Below.refl _ _)) (by assumption) (by first | omega | (simp; done) | (simp; omega))) (by first | omega | (simp; done) | (simp; omega))
  have f1_8_1 : w1.frozen? ⟨w.heap.size + 1 + 1, 1, none⟩ = false := bfroz hb1 (by first | assumption | (simp [go_sem]; done) | (simp [*]; done) | (simp [go_sem, *]; done) | exact bfroz (bl_alloc (Below.refl _ _)) (by assumption) (by first | omega | (simp; done) | (simp; omega))) (by first | omega | (simp; done) | (simp; omega))
  go_wp2_with fail
  go_at_call 137
  refine (em _).mono ?_
  rintro e w2 ⟨rfl, hb2⟩
  have s2 := hb2.size
  try simp at s2
  have l2_0 : w.heap.size < w2.heap.size := (by omega)
  have c2_1_0 : w2.cell? ⟨w.heap.size, 0, none⟩ = some (.float .f64 X1) := bkeep hb2 (by first | assumption | (simp [go_sem]; done) | (simp [*]; done) | (simp [go_sem, *]; done) | exact bkeep (bl_alloc (Below.refl _ _)) (by assumption) (by first | omega | (simp; done) | (simp; omega))) (by first | omega | (simp; done) | (simp; omega))
  have c2_2_1 : w2.cell? ⟨w.heap.size, 1, none⟩ = some (.float .f64 X2) := bkeep hb2 (by first | assumption | (simp [go_sem]; done) | (simp [*]; done) | (simp [go_sem, *]; done) | exact bkeep (bl_alloc (Below.refl _ _)) (by assumption) (by first | omega | (simp; done) | (simp; omega))) (by first | omega | (simp; done) | (simp; omega))
  have l2_3 : w.heap.size + 1 < w2.heap.size := (by omega)
  have c2_4_0 : w2.cell? ⟨w.heap.size + 1, 0, none⟩ = some (.float .f64 Y1) := bkeep hb2 (by first | assumption | (simp [go_sem]; done) | (simp [*]; done) | (simp [go_sem, *]; done) | exact bkeep (bl_alloc (Below.refl _ _)) (by assumption) (by first | omega | (simp; done) | (simp; omega))) (by first | omega | (simp; done) | (simp; omega))
  have c2_5_1 : w2.cell? ⟨w.heap.size + 1, 1, none⟩ = some (.float .f64 Y2) := bkeep hb2 (by first | assumption | (simp [go_sem]; done) | (simp [*]; done) | (simp [go_sem, *]; done) | exact bkeep (bl_alloc (Below.refl _ _)) (by assumption) (by first | omega | (simp; done) | (simp; omega))) (by first | omega | (simp; done) | (simp; omega))
  have l2_6 : w.heap.size + 1 + 1 < w2.heap.size := (by omega)
  have c2_7_0 : w2.cell? ⟨w.heap.size + 1 + 1, 0, none⟩ = some (.float .f64 0) := bkeep hb2 (by first | assumption | (simp [go_sem]; done) | (simp [*]; done) | (simp [go_sem, *]; done) | exact bkeep (bl_alloc (Below.refl _ _)) (by assumption) (by first | omega | (simp; done) | (simp; omega))) (by first | omega | (simp; done) | (simp; omega))
  have f2_7_0 : w2.frozen? ⟨w.heap.size + 1 + 1, 0, none⟩ = false := bfroz hb2 (by first | assumption | (simp [go_sem]; done) | (simp [*]; done) | (simp [go_sem, *]; done) | exact bfroz (bl_alloc (Below.refl _ _)) (by assumption) (by first | omega | (simp; done) | (simp; omega))) (by first | omega | (simp; done) | (simp; omega))
  have c2_8_1 : w2.cell? ⟨w.heap.size + 1 + 1, 1, none⟩ = some (.float .f64 0) := bkeep hb2 (by first | assumption | (simp [go_sem]; done) | (simp [*]; done) | (simp [go_sem, *]; done) | exact bkeep (bl_alloc (Below.refl _ _)) (by assumption) (by first | omega | (simp; done) | (simp; omega))) (by first | omega | (simp; done) | (simp; omega))
  have f2_8_1 : w2.frozen? ⟨w.heap.size + 1 + 1, 1, none⟩ = false := bfroz hb2 (by first | assumption | (simp [go_sem]; done) | (simp [*]; done) | (simp [go_sem, *]; done) | exact bfroz (bl_alloc (Below.refl _ _)) (by assumption) (by first | omega | (simp; done) | (simp; omega))) (by first | omega | (simp; done) | (simp; omega))
  clear l1_0 c1_1_0 c1_2_1 l1_3 c1_4_0 c1_5_1 l1_6 c1_7_0 f1_7_0 c1_8_1 f1_8_1
  go_wp2_with fail
  refine bodyPost_ret (v := .agg #[.float .f64 e1, .float .f64 e2]) (by simp [results, Try.results109, go_sem, *]) rfl ⟨rfl, ?_⟩
  repeat (first | exact Below.refl _ _ | assumption | refine Below.drew ?_ | refine bl_drewN ?_ _ | refine Below.setCell ?_ (by first | omega | (simp; done) | (simp; omega)) _ | refine Below.alloc ?_ (by first | omega | (simp; done) | (simp; omega)) _ | refine bl_next ?_ (by assumption) | refine bl_trans ?_ (by assumption) (by first | omega | (simp; done) | (simp; omega)))

theorem meet_noy_w (X1 X2 Y1 Y2 e1 e2 : Nat)
    (nx : ∀ w, Calls Try.prog 54 #[.agg #[.float .f64 X1, .float .f64 X2]] w fun e w' => e = .returned (.bool false) ∧ Below w.heap.size w w')
    (ny : ∀ w, Calls Try.prog 54 #[.agg #[.float .f64 Y1, .float .f64 Y2]] w fun e w' => e = .returned (.bool true) ∧ Below w.heap.size w w')
    (em : ∀ w, Calls Try.prog 137 #[] w fun e w' => e = .returned (.agg #[.float .f64 e1, .float .f64 e2]) ∧ Below w.heap.size w w') (w : World) :
    Calls Try.prog 109 #[.agg #[.float .f64 X1, .float .f64 X2], .agg #[.float .f64 Y1, .float .f64 Y2]] w fun e w' => e = .returned (.agg #[.float .f64 e1, .float .f64 e2]) ∧ Below w.heap.size w w' := by
  go_enter Try.func109, Try.ntmps109
  go_wp2_with fail
  go_at_call 54
  refine (nx _).mono ?_
  rintro e w1 ⟨rfl, hb1⟩
  have s1 := hb1.size
  try simp at s1
  have l1_0 : w.heap.size < w1.heap.size := (by omega)
  have c1_1_0 : w1.cell? ⟨w.heap.size, 0, none⟩ = some (.float .f64 X1) := bkeep hb1 (by first | assumption | (simp [go_sem]; done) | (simp [*]; done) | (simp [go_sem, *]; done) | exact bkeep (bl_alloc (Below.refl _ _)) (by assumption) (by first | omega | (simp; done) | (simp; omega))) (by first | omega | (simp; done) | (simp; omega))
  have c1_2_1 : w1.cell? ⟨w.heap.size, 1, none⟩ = some (.float .f64 X2) := bkeep hb1 (by first | assumption | (simp [go_sem]; done) | (simp [*]; done) | (simp [go_sem, *]; done) | exact bkeep (bl_alloc (Below.refl _ _)) (by assumption) (by first | omega | (simp; done) | (simp; omega))) (by first | omega | (simp; done) | (simp; omega))
  have l1_3 : w.heap.size + 1 < w1.heap.size := (by omega)
  have c1_4_0 : w1.cell? ⟨w.heap.size + 1, 0, none⟩ = some (.float .f64 Y1) := bkeep hb1 (by first | assumption | (simp [go_sem]; done) | (simp [*]; done) | (simp [go_sem, *]; done) | exact bkeep (bl_alloc (Below.refl _ _)) (by assumption) (by first | omega | (simp; done) | (simp; omega))) (by first | omega | (simp; done) | (simp; omega))
  have c1_5_1 : w1.cell? ⟨w.heap.size + 1, 1, none⟩ = some (.float .f64 Y2) := bkeep hb1 (by first | assumption | (simp [go_sem]; done) | (simp [*]; done) | (simp [go_sem, *]; done) | exact bkeep (bl_alloc (Below.refl _ _)) (by assumption) (by first | omega | (simp; done) | (simp; omega))) (by first | omega | (simp; done) | (simp; omega))
  have l1_6 : w.heap.size + 1 + 1 < w1.heap.size := (by omega)
  have c1_7_0 : w1.cell? ⟨w.heap.size + 1 + 1, 0, none⟩ = some (.float .f64 0) := bkeep hb1 (by first | assumption | (simp [go_sem]; done) | (simp [*]; done) | (simp [go_sem, *]; done) | exact bkeep (bl_alloc (Below.refl _ _)) (by assumption) (by first | omega | (simp; done) | (simp; omega))) (by first | omega | (simp; done) | (simp; omega))
  have f1_7_0 : w1.frozen? ⟨w.heap.size + 1 + 1, 0, none⟩ = false := bfroz hb1 (by first | assumption | (simp [go_sem]; done) | (simp [*]; done) | (simp [go_sem, *]; done) | exact bfroz (bl_alloc (Below.refl _ _)) (by assumption) (by first | omega | (simp; done) | (simp; omega))) (by first | omega | (simp; done) | (simp; omega))
  have c1_8_1 : w1.cell? ⟨w.heap.size + 1 + 1, 1, none⟩ = some (.float .f64 0) := bkeep hb1 (by first | assumption | (simp [go_sem]; done) | (simp [*]; done) | (simp [go_sem, *]; done) | exact bkeep (bl_alloc (Below.refl _ _)) (by assumption) (by first | omega | (simp; done) | (simp; omega))) (by first | omega | (simp; done) | (simp; omega))
  have f1_8_1 : w1.frozen? ⟨w.heap.size + 1 + 1, 1, none⟩ = false := bfroz hb1 (by first | assumption | (simp [go_sem]; done) | (simp [*]; done) | (simp [go_sem, *]; done) | exact bfroz (bl_alloc (Below.refl _ _)) (by assumption) (by first | omega | (simp; done) | (simp; omega))) (by first | omega | (simp; done) | (simp; omega))
  go_wp2_with fail
  go_at_call 54
  refine (ny _).mono ?_
  rintro e w2 ⟨rfl, hb2⟩
  have s2 := hb2.size
  try simp at s2
  have l2_0 : w.heap.size < w2.heap.size := (by omega)
  have c2_1_0 : w2.cell? ⟨w.heap.size, 0, none⟩ = some (.float .f64 X1) := bkeep hb2 (by first | assumption | (simp [go_sem]; done) | (simp [*]; done) | (simp [go_sem, *]; done) | exact bkeep (bl_alloc (Below.refl _ _)) (by assumption) (by first | omega | (simp; done) | (simp; omega))) (by first | omega | (simp; done) | (simp; omega))
  have c2_2_1 : w2.cell? ⟨w.heap.size, 1, none⟩ = some (.float .f64 X2) := bkeep hb2 (by first | assumption | (simp [go_sem]; done) | (simp [*]; done) | (simp [go_sem, *]; done) | exact bkeep (bl_alloc (Below.refl _ _)) (by assumption) (by first | omega | (simp; done) | (simp; omega))) (by first | omega | (simp; done) | (simp; omega))
  have l2_3 : w.heap.size + 1 < w2.heap.size := (by omega)
  have c2_4_0 : w2.cell? ⟨w.heap.size + 1, 0, none⟩ = some (.float .f64 Y1) := bkeep hb2 (by first | assumption | (simp [go_sem]; done) | (simp [*]; done) | (simp [go_sem, *]; done) | exact bkeep (bl_alloc (Below.refl _ _)) (by assumption) (by first | omega | (simp; done) | (simp; omega))) (by first | omega | (simp; done) | (simp; omega))
  have c2_5_1 : w2.cell? ⟨w.heap.size + 1, 1, none⟩ = some (.float .f64 Y2) := bkeep hb2 (by first | assumption | (simp [go_sem]; done) | (simp [*]; done) | (simp [go_sem, *]; done) | exact bkeep (bl_alloc (Below.refl _ _)) (by assumption) (by first | omega | (simp; done) | (simp; omega))) (by first | omega | (simp; done) | (simp; omega))
  have l2_6 : w.heap.size + 1 + 1 < w2.heap.size := (by omega)
  have c2_7_0 : w2.cell? ⟨w.heap.size + 1 + 1, 0, none⟩ = some (.float .f64 0) := bkeep hb2 (by first | assumption | (simp [go_sem]; done) | (simp [*]; done) | (simp [go_sem, *]; done) | exact bkeep (bl_alloc (Below.refl _ _)) (by assumption) (by first | omega | (simp; done) | (simp; omega))) (by first | omega | (simp; done) | (simp; omega))
  have f2_7_0 : w2.frozen? ⟨w.heap.size + 1 + 1, 0, none⟩ = false := bfroz hb2 (by first | assumption | (simp [go_sem]; done) | (simp [*]; done) | (simp [go_sem, *]; done) | exact bfroz (bl_alloc (Below.refl _ _)) (by assumption) (by first | omega | (simp; done) | (simp; omega))) (by first | omega | (simp; done) | (simp; omega))
  have c2_8_1 : w2.cell? ⟨w.heap.size + 1 + 1, 1, none⟩ = some (.float .f64 0) := bkeep hb2 (by first | assumption | (simp [go_sem]; done) | (simp [*]; done) | (simp [go_sem, *]; done) | exact bkeep (bl_alloc (Below.refl _ _)) (by assumption) (by first | omega | (simp; done) | (simp; omega))) (by first | omega | (simp; done) | (simp; omega))
  have f2_8_1 : w2.frozen? ⟨w.heap.size + 1 + 1, 1, none⟩ = false := bfroz hb2 (by first | assumption | (simp [go_sem]; done) | (simp [*]; done) | (simp [go_sem, *]; done) | exact bfroz (bl_alloc (Below.refl _ _)) (by assumption) (by first | omega | (simp; done) | (simp; omega))) (by first | omega | (simp; done) | (simp; omega))
  clear l1_0 c1_1_0 c1_2_1 l1_3 c1_4_0 c1_5_1 l1_6 c1_7_0 f1_7_0 c1_8_1 f1_8_1
  go_wp2_with fail
  go_at_call 137
  refine (em _).mono ?_
  rintro e w3 ⟨rfl, hb3⟩
  have s3 := hb3.size
  try simp at s3
  have l3_0 : w.heap.size < w3.heap.size := (by omega)
  have c3_1_0 : w3.cell? ⟨w.heap.size, 0, none⟩ = some (.float .f64 X1) := bkeep hb3 (by first | assumption | (simp [go_sem]; done) | (simp [*]; done) | (simp [go_sem, *]; done) | exact bkeep (bl_alloc (Below.refl _ _)) (by assumption) (by first | omega | (simp; done) | (simp; omega))) (by first | omega | (simp; done) | (simp; omega))
  have c3_2_1 : w3.cell? ⟨w.heap.size, 1, none⟩ = some (.float .f64 X2) := bkeep hb3 (by first | assumption | (simp [go_sem]; done) | (simp [*]; done) | (simp [go_sem, *]; done) | exact bkeep (bl_alloc (Below.refl _ _)) (by assumption) (by first | omega | (simp; done) | (simp; omega))) (by first | omega | (simp; done) | (simp; omega))
  have l3_3 : w.heap.size + 1 < w3.heap.size := (by omega)
  have c3_4_0 : w3.cell? ⟨w.heap.size + 1, 0, none⟩ = some (.float .f64 Y1) := bkeep hb3 (by first | assumption | (simp [go_sem]; done) | (simp [*]; done) | (simp [go_sem, *]; done) | exact bkeep (bl_alloc (Below.refl _ _)) (by assumption) (by first | omega | (simp; done) | (simp; omega))) (by first | omega | (simp; done) | (simp; omega))
  have c3_5_1 : w3.cell? ⟨w.heap.size + 1, 1, none⟩ = some (.float .f64 Y2) := bkeep hb3 (by first | assumption | (simp [go_sem]; done) | (simp [*]; done) | (simp [go_sem, *]; done) | exact bkeep (bl_alloc (Below.refl _ _)) (by assumption) (by first | omega | (simp; done) | (simp; omega))) (by first | omega | (simp; done) | (simp; omega))
  have l3_6 : w.heap.size + 1 + 1 < w3.heap.size := (by omega)
  have c3_7_0 : w3.cell? ⟨w.heap.size + 1 + 1, 0, none⟩ = some (.float .f64 0) := bkeep hb3 (by first | assumption | (simp [go_sem]; done) | (simp [*]; done) | (simp [go_sem, *]; done) | exact bkeep (bl_alloc (Below.refl _ _)) (by assumption) (by first | omega | (simp; done) | (simp; omega))) (by first | omega | (simp; done) | (simp; omega))
  have f3_7_0 : w3.frozen? ⟨w.heap.size + 1 + 1, 0, none⟩ = false := bfroz hb3 (by first | assumption | (simp [go_sem]; done) | (simp [*]; done) | (simp [go_sem, *]; done) | exact bfroz (bl_alloc (Below.refl _ _)) (by assumption) (by first | omega | (simp; done) | (simp; omega))) (by first | omega | (simp; done) | (simp; omega))
  have c3_8_1 : w3.cell? ⟨w.heap.size + 1 + 1, 1, none⟩ = some (.float .f64 0) := bkeep hb3 (by first | assumption | (simp [go_sem]; done) | (simp [*]; done) | (simp [go_sem, *]; done) | exact bkeep (bl_alloc (Below.refl _ _)) (by assumption) (by first | omega | (simp; done) | (simp; omega))) (by first | omega | (simp; done) | (simp; omega))
  have f3_8_1 : w3.frozen? ⟨w.heap.size + 1 + 1, 1, none⟩ = false := bfroz hb3 (by first | assumption | (simp [go_sem]; done) | (simp [*]; done) | (simp [go_sem, *]; done) | exact bfroz (bl_alloc (Below.refl _ _)) (by assumption) (by first | omega | (simp; done) | (simp; omega))) (by first | omega | (simp; done) | (simp; omega))
  clear l2_0 c2_1_0 c2_2_1 l2_3 c2_4_0 c2_5_1 l2_6 c2_7_0 f2_7_0 c2_8_1 f2_8_1
  go_wp2_with fail
  refine bodyPost_ret (v := .agg #[.float .f64 e1, .float .f64 e2]) (by simp [results, Try.results109, go_sem, *]) rfl ⟨rfl, ?_⟩
  repeat (first | exact Below.refl _ _ | assumption | refine Below.drew ?_ | refine bl_drewN ?_ _ | refine Below.setCell ?_ (by first | omega | (simp; done) | (simp; omega)) _ | refine Below.alloc ?_ (by first | omega | (simp; done) | (simp; omega)) _ | refine bl_next ?_ (by assumption) | refine bl_trans ?_ (by assumption) (by first | omega | (simp; done) | (simp; omega)))

theorem meet_ok_w (X1 X2 Y1 Y2 a b c d : Nat)
    (nx : ∀ w, Calls Try.prog 54 #[.agg #[.float .f64 X1, .float .f64 X2]] w fun e w' => e = .returned (.bool false) ∧ Below w.heap.size w w')
    (ny : ∀ w, Calls Try.prog 54 #[.agg #[.float .f64 Y1, .float .f64 Y2]] w fun e w' => e = .returned (.bool false) ∧ Below w.heap.size w w')
    (hM : ∀ ts t w, (Builtin.max_ ts t #[.float .f64 X1, .float .f64 Y1]).run Try.prog w = .ok (.float .f64 a) w)
    (hm : ∀ ts t w, (Builtin.min_ ts t #[.float .f64 X2, .float .f64 Y2]).run Try.prog w = .ok (.float .f64 b) w)
    (p : ∀ w, Calls Try.prog 145 #[.agg #[.float .f64 a, .float .f64 b]] w fun e w' => e = .returned (.agg #[.float .f64 c, .float .f64 d]) ∧ Below w.heap.size w w') (w : World) :
    Calls Try.prog 109 #[.agg #[.float .f64 X1, .float .f64 X2], .agg #[.float .f64 Y1, .float .f64 Y2]] w fun e w' => e = .returned (.agg #[.float .f64 c, .float .f64 d]) ∧ Below w.heap.size w w' := by
  go_enter Try.func109, Try.ntmps109
  go_wp2_with fail
  go_at_call 54
  refine (nx _).mono ?_
  rintro e w1 ⟨rfl, hb1⟩
  have s1 := hb1.size
  try simp at s1
  have l1_0 : w.heap.size < w1.heap.size := (by omega)
  have c1_1_0 : w1.cell? ⟨w.heap.size, 0, none⟩ = some (.float .f64 X1) := bkeep hb1 (by first | assumption | (simp [go_sem]; done) | (simp [*]; done) | (simp [go_sem, *]; done) | exact bkeep (bl_alloc (Below.refl _ _)) (by assumption) (by first | omega | (simp; done) | (simp; omega))) (by first | omega | (simp; done) | (simp; omega))
  have c1_2_1 : w1.cell? ⟨w.heap.size, 1, none⟩ = some (.float .f64 X2) := bkeep hb1 (by first | assumption | (simp [go_sem]; done) | (simp [*]; done) | (simp [go_sem, *]; done) | exact bkeep (bl_alloc (Below.refl _ _)) (by assumption) (by first | omega | (simp; done) | (simp; omega))) (by first | omega | (simp; done) | (simp; omega))
  have l1_3 : w.heap.size + 1 < w1.heap.size := (by omega)
  have c1_4_0 : w1.cell? ⟨w.heap.size + 1, 0, none⟩ = some (.float .f64 Y1) := bkeep hb1 (by first | assumption | (simp [go_sem]; done) | (simp [*]; done) | (simp [go_sem, *]; done) | exact bkeep (bl_alloc (Below.refl _ _)) (by assumption) (by first | omega | (simp; done) | (simp; omega))) (by first | omega | (simp; done) | (simp; omega))
  have c1_5_1 : w1.cell? ⟨w.heap.size + 1, 1, none⟩ = some (.float .f64 Y2) := bkeep hb1 (by first | assumption | (simp [go_sem]; done) | (simp [*]; done) | (simp [go_sem, *]; done) | exact bkeep (bl_alloc (Below.refl _ _)) (by assumption) (by first | omega | (simp; done) | (simp; omega))) (by first | omega | (simp; done) | (simp; omega))
  have l1_6 : w.heap.size + 1 + 1 < w1.heap.size := (by omega)
  have c1_7_0 : w1.cell? ⟨w.heap.size + 1 + 1, 0, none⟩ = some (.float .f64 0) := bkeep hb1 (by first | assumption | (simp [go_sem]; done) | (simp [*]; done) | (simp [go_sem, *]; done) | exact bkeep (bl_alloc (Below.refl _ _)) (by assumption) (by first | omega | (simp; done) | (simp; omega))) (by first | omega | (simp; done) | (simp; omega))
  have f1_7_0 : w1.frozen? ⟨w.heap.size + 1 + 1, 0, none⟩ = false := bfroz hb1 (by first | assumption | (simp [go_sem]; done) | (simp [*]; done) | (simp [go_sem, *]; done) | exact bfroz (bl_alloc (Below.refl _ _)) (by assumption) (by first | omega | (simp; done) | (simp; omega))) (by first | omega | (simp; done) | (simp; omega))
  have c1_8_1 : w1.cell? ⟨w.heap.size + 1 + 1, 1, none⟩ = some (.float .f64 0) := bkeep hb1 (by first | assumption | (simp [go_sem]; done) | (simp [*]; done) | (simp [go_sem, *]; done) | exact bkeep (bl_alloc (Below.refl _ _)) (by assumption) (by first | omega | (simp; done) | (simp; omega))) (by first | omega | (simp; done) | (simp; omega))
  have f1_8_1 : w1.frozen? ⟨w.heap.size + 1 + 1, 1, none⟩ = false := bfroz hb1 (by first | assumption | (simp [go_sem]; done) | (simp [*]; done) | (simp [go_sem, *]; done) | exact bfroz (bl_alloc (Below.refl _ _)) (by assumption) (by first | omega | (simp; done) | (simp; omega))) (by first | omega | (simp; done) | (simp; omega))
  go_wp2_with fail
  go_at_call 54
  refine (ny _).mono ?_
  rintro e w2 ⟨rfl, hb2⟩
  have s2 := hb2.size
  try simp at s2
  have l2_0 : w.heap.size < w2.heap.size := (by omega)
  have c2_1_0 : w2.cell? ⟨w.heap.size, 0, none⟩ = some (.float .f64 X1) := bkeep hb2 (by first | assumption | (simp [go_sem]; done) | (simp [*]; done) | (simp [go_sem, *]; done) | exact bkeep (bl_alloc (Below.refl _ _)) (by assumption) (by first | omega | (simp; done) | (simp; omega))) (by first | omega | (simp; done) | (simp; omega))
  have c2_2_1 : w2.cell? ⟨w.heap.size, 1, none⟩ = some (.float .f64 X2) := bkeep hb2 (by first | assumption | (simp [go_sem]; done) | (simp [*]; done) | (simp [go_sem, *]; done) | exact bkeep (bl_alloc (Below.refl _ _)) (by assumption) (by first | omega | (simp; done) | (simp; omega))) (by first | omega | (simp; done) | (simp; omega))
  have l2_3 : w.heap.size + 1 < w2.heap.size := (by omega)
  have c2_4_0 : w2.cell? ⟨w.heap.size + 1, 0, none⟩ = some (.float .f64 Y1) := bkeep hb2 (by first | assumption | (simp [go_sem]; done) | (simp [*]; done) | (simp [go_sem, *]; done) | exact bkeep (bl_alloc (Below.refl _ _)) (by assumption) (by first | omega | (simp; done) | (simp; omega))) (by first | omega | (simp; done) | (simp; omega))
  have c2_5_1 : w2.cell? ⟨w.heap.size + 1, 1, none⟩ = some (.float .f64 Y2) := bkeep hb2 (by first | assumption | (simp [go_sem]; done) | (simp [*]; done) | (simp [go_sem, *]; done) | exact bkeep (bl_alloc (Below.refl _ _)) (by assumption) (by first | omega | (simp; done) | (simp; omega))) (by first | omega | (simp; done) | (simp; omega))
  have l2_6 : w.heap.size + 1 + 1 < w2.heap.size := (by omega)
  have c2_7_0 : w2.cell? ⟨w.heap.size + 1 + 1, 0, none⟩ = some (.float .f64 0) := bkeep hb2 (by first | assumption | (simp [go_sem]; done) | (simp [*]; done) | (simp [go_sem, *]; done) | exact bkeep (bl_alloc (Below.refl _ _)) (by assumption) (by first | omega | (simp; done) | (simp; omega))) (by first | omega | (simp; done) | (simp; omega))
  have f2_7_0 : w2.frozen? ⟨w.heap.size + 1 + 1, 0, none⟩ = false := bfroz hb2 (by first | assumption | (simp [go_sem]; done) | (simp [*]; done) | (simp [go_sem, *]; done) | exact bfroz (bl_alloc (Below.refl _ _)) (by assumption) (by first | omega | (simp; done) | (simp; omega))) (by first | omega | (simp; done) | (simp; omega))
  have c2_8_1 : w2.cell? ⟨w.heap.size + 1 + 1, 1, none⟩ = some (.float .f64 0) := bkeep hb2 (by first | assumption | (simp [go_sem]; done) | (simp [*]; done) | (simp [go_sem, *]; done) | exact bkeep (bl_alloc (Below.refl _ _)) (by assumption) (by first | omega | (simp; done) | (simp; omega))) (by first | omega | (simp; done) | (simp; omega))
  have f2_8_1 : w2.frozen? ⟨w.heap.size + 1 + 1, 1, none⟩ = false := bfroz hb2 (by first | assumption | (simp [go_sem]; done) | (simp [*]; done) | (simp [go_sem, *]; done) | exact bfroz (bl_alloc (Below.refl _ _)) (by assumption) (by first | omega | (simp; done) | (simp; omega))) (by first | omega | (simp; done) | (simp; omega))
  clear l1_0 c1_1_0 c1_2_1 l1_3 c1_4_0 c1_5_1 l1_6 c1_7_0 f1_7_0 c1_8_1 f1_8_1
  go_wp2_with fail
  go_at_call 145
  refine (p _).mono ?_
  rintro e w3 ⟨rfl, hb3⟩
  have s3 := hb3.size
  try simp at s3
  have l3_0 : w.heap.size < w3.heap.size := (by omega)
  have c3_1_0 : w3.cell? ⟨w.heap.size, 0, none⟩ = some (.float .f64 X1) := bkeep hb3 (by first | assumption | (simp [go_sem]; done) | (simp [*]; done) | (simp [go_sem, *]; done) | exact bkeep (bl_alloc (Below.refl _ _)) (by assumption) (by first | omega | (simp; done) | (simp; omega))) (by first | omega | (simp; done) | (simp; omega))
  have c3_2_1 : w3.cell? ⟨w.heap.size, 1, none⟩ = some (.float .f64 X2) := bkeep hb3 (by first | assumption | (simp [go_sem]; done) | (simp [*]; done) | (simp [go_sem, *]; done) | exact bkeep (bl_alloc (Below.refl _ _)) (by assumption) (by first | omega | (simp; done) | (simp; omega))) (by first | omega | (simp; done) | (simp; omega))
  have l3_3 : w.heap.size + 1 < w3.heap.size := (by omega)
  have c3_4_0 : w3.cell? ⟨w.heap.size + 1, 0, none⟩ = some (.float .f64 Y1) := bkeep hb3 (by first | assumption | (simp [go_sem]; done) | (simp [*]; done) | (simp [go_sem, *]; done) | exact bkeep (bl_alloc (Below.refl _ _)) (by assumption) (by first | omega | (simp; done) | (simp; omega))) (by first | omega | (simp; done) | (simp; omega))
  have c3_5_1 : w3.cell? ⟨w.heap.size + 1, 1, none⟩ = some (.float .f64 Y2) := bkeep hb3 (by first | assumption | (simp [go_sem]; done) | (simp [*]; done) | (simp [go_sem, *]; done) | exact bkeep (bl_alloc (Below.refl _ _)) (by assumption) (by first | omega | (simp; done) | (simp; omega))) (by first | omega | (simp; done) | (simp; omega))
  have l3_6 : w.heap.size + 1 + 1 < w3.heap.size := (by omega)
  have c3_7_0 : w3.cell? ⟨w.heap.size + 1 + 1, 0, none⟩ = some (.float .f64 0) := bkeep hb3 (by first | assumption | (simp [go_sem]; done) | (simp [*]; done) | (simp [go_sem, *]; done) | exact bkeep (bl_alloc (Below.refl _ _)) (by assumption) (by first | omega | (simp; done) | (simp; omega))) (by first | omega | (simp; done) | (simp; omega))
  have f3_7_0 : w3.frozen? ⟨w.heap.size + 1 + 1, 0, none⟩ = false := bfroz hb3 (by first | assumption | (simp [go_sem]; done) | (simp [*]; done) | (simp [go_sem, *]; done) | exact bfroz (bl_alloc (Below.refl _ _)) (by assumption) (by first | omega | (simp; done) | (simp; omega))) (by first | omega | (simp; done) | (simp; omega))
  have c3_8_1 : w3.cell? ⟨w.heap.size + 1 + 1, 1, none⟩ = some (.float .f64 0) := bkeep hb3 (by first | assumption | (simp [go_sem]; done) | (simp [*]; done) | (simp [go_sem, *]; done) | exact bkeep (bl_alloc (Below.refl _ _)) (by assumption) (by first | omega | (simp; done) | (simp; omega))) (by first | omega | (simp; done) | (simp; omega))
  have f3_8_1 : w3.frozen? ⟨w.heap.size + 1 + 1, 1, none⟩ = false := bfroz hb3 (by first | assumption | (simp [go_sem]; done) | (simp [*]; done) | (simp [go_sem, *]; done) | exact bfroz (bl_alloc (Below.refl _ _)) (by assumption) (by first | omega | (simp; done) | (simp; omega))) (by first | omega | (simp; done) | (simp; omega))
  clear l2_0 c2_1_0 c2_2_1 l2_3 c2_4_0 c2_5_1 l2_6 c2_7_0 f2_7_0 c2_8_1 f2_8_1
  go_wp2_with fail
  refine bodyPost_ret (v := .agg #[.float .f64 c, .float .f64 d]) (by simp [results, Try.results109, go_sem, *]) rfl ⟨rfl, ?_⟩
  repeat (first | exact Below.refl _ _ | assumption | refine Below.drew ?_ | refine bl_drewN ?_ _ | refine Below.setCell ?_ (by first | omega | (simp; done) | (simp; omega)) _ | refine Below.alloc ?_ (by first | omega | (simp; done) | (simp; omega)) _ | refine bl_next ?_ (by assumption) | refine bl_trans ?_ (by assumption) (by first | omega | (simp; done) | (simp; omega)))

theorem hull_nox_w (X1 X2 Y1 Y2 c d : Nat)
    (nx : ∀ w, Calls Try.prog 54 #[.agg #[.float .f64 X1, .float .f64 X2]] w fun e w' => e = .returned (.bool true) ∧ Below w.heap.size w w')
    (p : ∀ w, Calls Try.prog 145 #[.agg #[.float .f64 Y1, .float .f64 Y2]] w fun e w' => e = .returned (.agg #[.float .f64 c, .float .f64 d]) ∧ Below w.heap.size w w') (w : World) :
    Calls Try.prog 110 #[.agg #[.float .f64 X1, .float .f64 X2], .agg #[.float .f64 Y1, .float .f64 Y2]] w fun e w' => e = .returned (.agg #[.float .f64 c, .float .f64 d]) ∧ Below w.heap.size w w' := by
  go_enter Try.func110, Try.ntmps110
  go_wp2_with fail
  go_at_call 54
  refine (nx _).mono ?_
  rintro e w1 ⟨rfl, hb1⟩
  have s1 := hb1.size
  try simp at s1
  have l1_0 : w.heap.size < w1.heap.size := (by omega)
  have c1_1_0 : w1.cell? ⟨w.heap.size, 0, none⟩ = some (.float .f64 X1) := bkeep hb1 (by first | assumption | (simp [go_sem]; done) | (simp [*]; done) | (simp [go_sem, *]; done) | exact bkeep (bl_alloc (Below.refl _ _)) (by assumption) (by first | omega | (simp; done) | (simp; omega))) (by first | omega | (simp; done) | (simp; omega))
  have c1_2_1 : w1.cell? ⟨w.heap.size, 1, none⟩ = some (.float .f64 X2) := bkeep hb1 (by first | assumption | (simp [go_sem]; done) | (simp [*]; done) | (simp [go_sem, *]; done) | exact bkeep (bl_alloc (Below.refl _ _)) (by assumption) (by first | omega | (simp; done) | (simp; omega))) (by first | omega | (simp; done) | (simp; omega))
  have l1_3 : w.heap.size + 1 < w1.heap.size := (by omega)
  have c1_4_0 : w1.cell? ⟨w.heap.size + 1, 0, none⟩ = some (.float .f64 Y1) := bkeep hb1 (by first | assumption | (simp [go_sem]; done) | (simp [*]; done) | (simp [go_sem, *]; done) | exact bkeep (bl_alloc (Below.refl _ _)) (by assumption) (by first | omega | (simp; done) | (simp; omega))) (by first | omega | (simp; done) | (simp; omega))
  have c1_5_1 : w1.cell? ⟨w.heap.size + 1, 1, none⟩ = some (.float .f64 Y2) := bkeep hb1 (by first | assumption | (simp [go_sem]; done) | (simp [*]; done) | (simp [go_sem, *]; done) | exact bkeep (bl_alloc (Below.refl _ _)) (by assumption) (by first | omega | (simp; done) | (simp; omega))) (by first | omega | (simp; done) | (simp; omega))
  have l1_6 : w.heap.size + 1 + 1 < w1.heap.size := (by omega)
  have c1_7_0 : w1.cell? ⟨w.heap.size + 1 + 1, 0, none⟩ = some (.float .f64 0) := bkeep hb1 (by first | assumption | (simp [go_sem]; done) | (simp [*]; done) | (simp [go_sem, *]; done) | exact bkeep (bl_alloc (Below.refl _ _)) (by assumption) (by first | omega | (simp; done) | (simp; omega))) (by first | omega | (simp; done) | (simp; omega))
  have f1_7_0 : w1.frozen? ⟨w.heap.size + 1 + 1, 0, none⟩ = false := bfroz hb1 (by first | assumption | (simp [go_sem]; done) | (simp [*]; done) | (simp [go_sem, *]; done) | exact bfroz (bl_alloc (Below.refl _ _)) (by assumption) (by first | omega | (simp; done) | (simp; omega))) (by first | omega | (simp; done) | (simp; omega))
  have c1_8_1 : w1.cell? ⟨w.heap.size + 1 + 1, 1, none⟩ = some (.float .f64 0) := bkeep hb1 (by first | assumption | (simp [go_sem]; done) | (simp [*]; done) | (simp [go_sem, *]; done) | exact bkeep (bl_alloc (Below.refl _ _)) (by assumption) (by first | omega | (simp; done) | (simp; omega))) (by first | omega | (simp; done) | (simp; omega))
  have f1_8_1 : w1.frozen? ⟨w.heap.size + 1 + 1, 1, none⟩ = false := bfroz hb1 (by first | assumption | (simp [go_sem]; done) | (simp [*]; done) | (simp [go_sem, *]; done) | exact bfroz (bl_alloc (Below.refl _ _)) (by assumption) (by first | omega | (simp; done) | (simp; omega))) (by first | omega | (simp; done) | (simp; omega))
  go_wp2_with fail
  go_at_call 145
  refine (p _).mono ?_
  rintro e w2 ⟨rfl, hb2⟩
  have s2 := hb2.size
  try simp at s2
  have l2_0 : w.heap.size < w2.heap.size := (by omega)
  have c2_1_0 : w2.cell? ⟨w.heap.size, 0, none⟩ = some (.float .f64 X1) := bkeep hb2 (by first | assumption | (simp [go_sem]; done) | (simp [*]; done) | (simp [go_sem, *]; done) | exact bkeep (bl_alloc (Below.refl _ _)) (by assumption) (by first | omega | (simp; done) | (simp; omega))) (by first | omega | (simp; done) | (simp; omega))
  have c2_2_1 : w2.cell? ⟨w.heap.size, 1, none⟩ = some (.float .f64 X2) := bkeep hb2 (by first | assumption | (simp [go_sem]; done) | (simp [*]; done) | (simp [go_sem, *]; done) | exact bkeep (bl_alloc (Below.refl _ _)) (by assumption) (by first | omega | (simp; done) | (simp; omega))) (by first | omega | (simp; done) | (simp; omega))
  have l2_3 : w.heap.size + 1 < w2.heap.size := (by omega)
  have c2_4_0 : w2.cell? ⟨w.heap.size + 1, 0, none⟩ = some (.float .f64 Y1) := bkeep hb2 (by first | assumption | (simp [go_sem]; done) | (simp [*]; done) | (simp [go_sem, *]; done) | exact bkeep (bl_alloc (Below.refl _ _)) (by assumption) (by first | omega | (simp; done) | (simp; omega))) (by first | omega | (simp; done) | (simp; omega))
  have c2_5_1 : w2.cell? ⟨w.heap.size + 1, 1, none⟩ = some (.float .f64 Y2) := bkeep hb2 (by first | assumption | (simp [go_sem]; done) | (simp [*]; done) | (simp [go_sem, *]; done) | exact bkeep (bl_alloc (Below.refl _ _)) (by assumption) (by first | omega | (simp; done) | (simp; omega))) (by first | omega | (simp; done) | (simp; omega))
  have l2_6 : w.heap.size + 1 + 1 < w2.heap.size := (by omega)
  have c2_7_0 : w2.cell? ⟨w.heap.size + 1 + 1, 0, none⟩ = some (.float .f64 0) := bkeep hb2 (by first | assumption | (simp [go_sem]; done) | (simp [*]; done) | (simp [go_sem, *]; done) | exact bkeep (bl_alloc (Below.refl _ _)) (by assumption) (by first | omega | (simp; done) | (simp; omega))) (by first | omega | (simp; done) | (simp; omega))
  have f2_7_0 : w2.frozen? ⟨w.heap.size + 1 + 1, 0, none⟩ = false := bfroz hb2 (by first | assumption | (simp [go_sem]; done) | (simp [*]; done) | (simp [go_sem, *]; done) | exact bfroz (bl_alloc (Below.refl _ _)) (by assumption) (by first | omega | (simp; done) | (simp; omega))) (by first | omega | (simp; done) | (simp; omega))
  have c2_8_1 : w2.cell? ⟨w.heap.size + 1 + 1, 1, none⟩ = some (.float .f64 0) := bkeep hb2 (by first | assumption | (simp [go_sem]; done) | (simp [*]; done) | (simp [go_sem, *]; done) | exact bkeep (bl_alloc (Below.refl _ _)) (by assumption) (by first | omega | (simp; done) | (simp; omega))) (by first | omega | (simp; done) | (simp; omega))
  have f2_8_1 : w2.frozen? ⟨w.heap.size + 1 + 1, 1, none⟩ = false := bfroz hb2 (by first | assumption | (simp [go_sem]; done) | (simp [*]; done) | (simp [go_sem, *]; done) | exact bfroz (bl_alloc (Below.refl _ _)) (by assumption) (by first | omega | (simp; done) | (simp; omega))) (by first | omega | (simp; done) | (simp; omega))
  clear l1_0 c1_1_0 c1_2_1 l1_3 c1_4_0 c1_5_1 l1_6 c1_7_0 f1_7_0 c1_8_1 f1_8_1
  go_wp2_with fail
  refine bodyPost_ret (v := .agg #[.float .f64 c, .float .f64 d]) (by simp [results, Try.results110, go_sem, *]) rfl ⟨rfl, ?_⟩
  repeat (first | exact Below.refl _ _ | assumption | refine Below.drew ?_ | refine bl_drewN ?_ _ | refine Below.setCell ?_ (by first | omega | (simp; done) | (simp; omega)) _ | refine Below.alloc ?_ (by first | omega | (simp; done) | (simp; omega)) _ | refine bl_next ?_ (by assumption) | refine bl_trans ?_ (by assumption) (by first | omega | (simp; done) | (simp; omega)))

theorem hull_noy_w (X1 X2 Y1 Y2 c d : Nat)
    (nx : ∀ w, Calls Try.prog 54 #[.agg #[.float .f64 X1, .float .f64 X2]] w fun e w' => e = .returned (.bool false) ∧ Below w.heap.size w w')
    (ny : ∀ w, Calls Try.prog 54 #[.agg #[.float .f64 Y1, .float .f64 Y2]] w fun e w' => e = .returned (.bool true) ∧ Below w.heap.size w w')
    (p : ∀ w, Calls Try.prog 145 #[.agg #[.float .f64 X1, .float .f64 X2]] w fun e w' => e = .returned (.agg #[.float .f64 c, .float .f64 d]) ∧ Below w.heap.size w w') (w : World) :
    Calls Try.prog 110 #[.agg #[.float .f64 X1, .float .f64 X2], .agg #[.float .f64 Y1, .float .f64 Y2]] w fun e w' => e = .returned (.agg #[.float .f64 c, .float .f64 d]) ∧ Below w.heap.size w w' := by
  go_enter Try.func110, Try.ntmps110
  go_wp2_with fail
  go_at_call 54
  refine (nx _).mono ?_
  rintro e w1 ⟨rfl, hb1⟩
  have s1 := hb1.size
  try simp at s1
  have l1_0 : w.heap.size < w1.heap.size := (by omega)
  have c1_1_0 : w1.cell? ⟨w.heap.size, 0, none⟩ = some (.float .f64 X1) := bkeep hb1 (by first | assumption | (simp [go_sem]; done) | (simp [*]; done) | (simp [go_sem, *]; done) | exact bkeep (bl_alloc (Below.refl _ _)) (by assumption) (by first | omega | (simp; done) | (simp; omega))) (by first | omega | (simp; done) | (simp; omega))
  have c1_2_1 : w1.cell? ⟨w.heap.size, 1, none⟩ = some (.float .f64 X2) := bkeep hb1 (by first | assumption | (simp [go_sem]; done) | (simp [*]; done) | (simp [go_sem, *]; done) | exact bkeep (bl_alloc (Below.refl _ _)) (by assumption) (by first | omega | (simp; done) | (simp; omega))) (by first | omega | (simp; done) | (simp; omega))
  have l1_3 : w.heap.size + 1 < w1.heap.size := (by omega)
  have c1_4_0 : w1.cell? ⟨w.heap.size + 1, 0, none⟩ = some (.float .f64 Y1) := bkeep hb1 (by first | assumption | (simp [go_sem]; done) | (simp [*]; done) | (simp [go_sem, *]; done) | exact bkeep (bl_alloc (Below.refl _ _)) (by assumption) (by first | omega | (simp; done) | (simp; omega))) (by first | omega | (simp; done) | (simp; omega))
  have c1_5_1 : w1.cell? ⟨w.heap.size + 1, 1, none⟩ = some (.float .f64 Y2) := bkeep hb1 (by first | assumption | (simp [go_sem]; done) | (simp [*]; done) | (simp [go_sem, *]; done) | exact bkeep (bl_alloc (Below.refl _ _)) (by assumption) (by first | omega | (simp; done) | (simp; omega))) (by first | omega | (simp; done) | (simp; omega))
  have l1_6 : w.heap.size + 1 + 1 < w1.heap.size := (by omega)
  have c1_7_0 : w1.cell? ⟨w.heap.size + 1 + 1, 0, none⟩ = some (.float .f64 0) := bkeep hb1 (by first | assumption | (simp [go_sem]; done) | (simp [*]; done) | (simp [go_sem, *]; done) | exact bkeep (bl_alloc (Below.refl _ _)) (by assumption) (by first | omega | (simp; done) | (simp; omega))) (by first | omega | (simp; done) | (simp; omega))
  have f1_7_0 : w1.frozen? ⟨w.heap.size + 1 + 1, 0, none⟩ = false := bfroz hb1 (by first | assumption | (simp [go_sem]; done) | (simp [*]; done) | (simp [go_sem, *]; done) | exact bfroz (bl_alloc (Below.refl _ _)) (by assumption) (by first | omega | (simp; done) | (simp; omega))) (by first | omega | (simp; done) | (simp; omega))
  have c1_8_1 : w1.cell? ⟨w.heap.size + 1 + 1, 1, none⟩ = some (.float .f64 0) := bkeep hb1 (by first | assumption | (simp [go_sem]; done) | (simp [*]; done) | (simp [go_sem, *]; done) | exact bkeep (bl_alloc (Below.refl _ _)) (by assumption) (by first | omega | (simp; done) | (simp; omega))) (by first | omega | (simp; done) | (simp; omega))
  have f1_8_1 : w1.frozen? ⟨w.heap.size + 1 + 1, 1, none⟩ = false := bfroz hb1 (by first | assumption | (simp [go_sem]; done) | (simp [*]; done) | (simp [go_sem, *]; done) | exact bfroz (bl_alloc (Below.refl _ _)) (by assumption) (by first | omega | (simp; done) | (simp; omega))) (by first | omega | (simp; done) | (simp; omega))
  go_wp2_with fail
  go_at_call 54
  refine (ny _).mono ?_
  rintro e w2 ⟨rfl, hb2⟩
  have s2 := hb2.size
  try simp at s2
  have l2_0 : w.heap.size < w2.heap.size := (by omega)
  have c2_1_0 : w2.cell? ⟨w.heap.size, 0, none⟩ = some (.float .f64 X1) := bkeep hb2 (by first | assumption | (simp [go_sem]; done) | (simp [*]; done) | (simp [go_sem, *]; done) | exact bkeep (bl_alloc (Below.refl _ _)) (by assumption) (by first | omega | (simp; done) | (simp; omega))) (by first | omega | (simp; done) | (simp; omega))
  have c2_2_1 : w2.cell? ⟨w.heap.size, 1, none⟩ = some (.float .f64 X2) := bkeep hb2 (by first | assumption | (simp [go_sem]; done) | (simp [*]; done) | (simp [go_sem, *]; done) | exact bkeep (bl_alloc (Below.refl _ _)) (by assumption) (by first | omega | (simp; done) | (simp; omega))) (by first | omega | (simp; done) | (simp; omega))
  have l2_3 : w.heap.size + 1 < w2.heap.size := (by omega)
  have c2_4_0 : w2.cell? ⟨w.heap.size + 1, 0, none⟩ = some (.float .f64 Y1) := bkeep hb2 (by first | assumption | (simp [go_sem]; done) | (simp [*]; done) | (simp [go_sem, *]; done) | exact bkeep (bl_alloc (Below.refl _ _)) (by assumption) (by first | omega | (simp; done) | (simp; omega))) (by first | omega | (simp; done) | (simp; omega))
  have c2_5_1 : w2.cell? ⟨w.heap.size + 1, 1, none⟩ = some (.float .f64 Y2) := bkeep hb2 (by first | assumption | (simp [go_sem]; done) | (simp [*]; done) | (simp [go_sem, *]; done) | exact bkeep (bl_alloc (Below.refl _ _)) (by assumption) (by first | omega | (simp; done) | (simp; omega))) (by first | omega | (simp; done) | (simp; omega))
  have l2_6 : w.heap.size + 1 + 1 < w2.heap.size := (by omega)
  have c2_7_0 : w2.cell? ⟨w.heap.size + 1 + 1, 0, none⟩ = some (.float .f64 0) := bkeep hb2 (by first | assumption | (simp [go_sem]; done) | (simp [*]; done) | (simp [go_sem, *]; done) | exact bkeep (bl_alloc (Below.refl _ _)) (by assumption) (by first | omega | (simp; done) | (simp; omega))) (by first | omega | (simp; done) | (simp; omega))
  have f2_7_0 : w2.frozen? ⟨w.heap.size + 1 + 1, 0, none⟩ = false := bfroz hb2 (by first | assumption | (simp [go_sem]; done) | (simp [*]; done) | (simp [go_sem, *]; done) | exact bfroz (bl_alloc (Below.refl _ _)) (by assumption) (by first | omega | (simp; done) | (simp; omega))) (by first | omega | (simp; done) | (simp; omega))
  have c2_8_1 : w2.cell? ⟨w.heap.size + 1 + 1, 1, none⟩ = some (.float .f64 0) := bkeep hb2 (by first | assumption | (simp [go_sem]; done) | (simp [*]; done) | (simp [go_sem, *]; done) | exact bkeep (bl_alloc (Below.refl _ _)) (by assumption) (by first | omega | (simp; done) | (simp; omega))) (by first | omega | (simp; done) | (simp; omega))
  have f2_8_1 : w2.frozen? ⟨w.heap.size + 1 + 1, 1, none⟩ = false := bfroz hb2 (by first | assumption | (simp [go_sem]; done) | (simp [*]; done) | (simp [go_sem, *]; done) | exact bfroz (bl_alloc (Below.refl _ _)) (by assumption) (by first | omega | (simp; done) | (simp; omega))) (by first | omega | (simp; done) | (simp; omega))
  clear l1_0 c1_1_0 c1_2_1 l1_3 c1_4_0 c1_5_1 l1_6 c1_7_0 f1_7_0 c1_8_1 f1_8_1
  go_wp2_with fail
  go_at_call 145
  refine (p _).mono ?_
  rintro e w3 ⟨rfl, hb3⟩
  have s3 := hb3.size
  try simp at s3
  have l3_0 : w.heap.size < w3.heap.size := (by omega)
  have c3_1_0 : w3.cell? ⟨w.heap.size, 0, none⟩ = some (.float .f64 X1) := bkeep hb3 (by first | assumption | (simp [go_sem]; done) | (simp [*]; done) | (simp [go_sem, *]; done) | exact bkeep (bl_alloc (Below.refl _ _)) (by assumption) (by first | omega | (simp; done) | (simp; omega))) (by first | omega | (simp; done) | (simp; omega))
  have c3_2_1 : w3.cell? ⟨w.heap.size, 1, none⟩ = some (.float .f64 X2) := bkeep hb3 (by first | assumption | (simp [go_sem]; done) | (simp [*]; done) | (simp [go_sem, *]; done) | exact bkeep (bl_alloc (Below.refl _ _)) (by assumption) (by first | omega | (simp; done) | (simp; omega))) (by first | omega | (simp; done) | (simp; omega))
  have l3_3 : w.heap.size + 1 < w3.heap.size := (by omega)
  have c3_4_0 : w3.cell? ⟨w.heap.size + 1, 0, none⟩ = some (.float .f64 Y1) := bkeep hb3 (by first | assumption | (simp [go_sem]; done) | (simp [*]; done) | (simp [go_sem, *]; done) | exact bkeep (bl_alloc (Below.refl _ _)) (by assumption) (by first | omega | (simp; done) | (simp; omega))) (by first | omega | (simp; done) | (simp; omega))
  have c3_5_1 : w3.cell? ⟨w.heap.size + 1, 1, none⟩ = some (.float .f64 Y2) := bkeep hb3 (by first | assumption | (simp [go_sem]; done) | (simp [*]; done) | (simp [go_sem, *]; done) | exact bkeep (bl_alloc (Below.refl _ _)) (by assumption) (by first | omega | (simp; done) | (simp; omega))) (by first | omega | (simp; done) | (simp; omega))
  have l3_6 : w.heap.size + 1 + 1 < w3.heap.size := (by omega)
  have c3_7_0 : w3.cell? ⟨w.heap.size + 1 + 1, 0, none⟩ = some (.float .f64 0) := bkeep hb3 (by first | assumption | (simp [go_sem]; done) | (simp [*]; done) | (simp [go_sem, *]; done) | exact bkeep (bl_alloc (Below.refl _ _)) (by assumption) (by first | omega | (simp; done) | (simp; omega))) (by first | omega | (simp; done) | (simp; omega))
  have f3_7_0 : w3.frozen? ⟨w.heap.size + 1 + 1, 0, none⟩ = false := bfroz hb3 (by first | assumption | (simp [go_sem]; done) | (simp [*]; done) | (simp [go_sem, *]; done) | exact bfroz (bl_alloc (Below.refl _ _)) (by assumption) (by first | omega | (simp; done) | (simp; omega))) (by first | omega | (simp; done) | (simp; omega))
  have c3_8_1 : w3.cell? ⟨w.heap.size + 1 + 1, 1, none⟩ = some (.float .f64 0) := bkeep hb3 (by first | assumption | (simp [go_sem]; done) | (simp [*]; done) | (simp [go_sem, *]; done) | exact bkeep (bl_alloc (Below.refl _ _)) (by assumption) (by first | omega | (simp; done) | (simp; omega))) (by first | omega | (simp; done) | (simp; omega))
  have f3_8_1 : w3.frozen? ⟨w.heap.size + 1 + 1, 1, none⟩ = false := bfroz hb3 (by first | assumption | (simp [go_sem]; done) | (simp [*]; done) | (simp [go_sem, *]; done) | exact bfroz (bl_alloc (Below.refl _ _)) (by assumption) (by first | omega | (simp; done) | (simp; omega))) (by first | omega | (simp; done) | (simp; omega))
  clear l2_0 c2_1_0 c2_2_1 l2_3 c2_4_0 c2_5_1 l2_6 c2_7_0 f2_7_0 c2_8_1 f2_8_1
  go_wp2_with fail
  refine bodyPost_ret (v := .agg #[.float .f64 c, .float .f64 d]) (by simp [results, Try.results110, go_sem, *]) rfl ⟨rfl, ?_⟩
  repeat (first | exact Below.refl _ _ | assumption | refine Below.drew ?_ | refine bl_drewN ?_ _ | refine Below.setCell ?_ (by first | omega | (simp; done) | (simp; omega)) _ | refine Below.alloc ?_ (by first | omega | (simp; done) | (simp; omega)) _ | refine bl_next ?_ (by assumption) | refine bl_trans ?_ (by assumption) (by first | omega | (simp; done) | (simp; omega)))

theorem hull_ok_w (X1 X2 Y1 Y2 a b c d : Nat)
    (nx : ∀ w, Calls Try.prog 54 #[.agg #[.float .f64 X1, .float .f64 X2]] w fun e w' => e = .returned (.bool false) ∧ Below w.heap.size w w')
    (ny : ∀ w, Calls Try.prog 54 #[.agg #[.float .f64 Y1, .float .f64 Y2]] w fun e w' => e = .returned (.bool false) ∧ Below w.heap.size w w')
    (v : ∀ w, Calls Try.prog 139 #[.agg #[.float .f64 X1, .float .f64 X2], .agg #[.float .f64 Y1, .float .f64 Y2]] w fun e w' => e = .returned (.agg #[.float .f64 a, .float .f64 b]) ∧ Below w.heap.size w w')
    (p : ∀ w, Calls Try.prog 145 #[.agg #[.float .f64 a, .float .f64 b]] w fun e w' => e = .returned (.agg #[.float .f64 c, .float .f64 d]) ∧ Below w.heap.size w w') (w : World) :
    Calls Try.prog 110 #[.agg #[.float .f64 X1, .float .f64 X2], .agg #[.float .f64 Y1, .float .f64 Y2]] w fun e w' => e = .returned (.agg #[.float .f64 c, .float .f64 d]) ∧ Below w.heap.size w w' := by
  go_enter Try.func110, Try.ntmps110
  go_wp2_with fail
  go_at_call 54
  refine (nx _).mono ?_
  rintro e w1 ⟨rfl, hb1⟩
  have s1 := hb1.size
  try simp at s1
  have l1_0 : w.heap.size < w1.heap.size := (by omega)
  have c1_1_0 : w1.cell? ⟨w.heap.size, 0, none⟩ = some (.float .f64 X1) := bkeep hb1 (by first | assumption | (simp [go_sem]; done) | (simp [*]; done) | (simp [go_sem, *]; done) | exact bkeep (bl_alloc (Below.refl _ _)) (by assumption) (by first | omega | (simp; done) | (simp; omega))) (by first | omega | (simp; done) | (simp; omega))
  have c1_2_1 : w1.cell? ⟨w.heap.size, 1, none⟩ = some (.float .f64 X2) := bkeep hb1 (by first | assumption | (simp [go_sem]; done) | (simp [*]; done) | (simp [go_sem, *]; done) | exact bkeep (bl_alloc (Below.refl _ _)) (by assumption) (by first | omega | (simp; done) | (simp; omega))) (by first | omega | (simp; done) | (simp; omega))
  have l1_3 : w.heap.size + 1 < w1.heap.size := (by omega)
  have c1_4_0 : w1.cell? ⟨w.heap.size + 1, 0, none⟩ = some (.float .f64 Y1) := bkeep hb1 (by first | assumption | (simp [go_sem]; done) | (simp [*]; done) | (simp [go_sem, *]; done) | exact bkeep (bl_alloc (Below.refl _ _)) (by assumption) (by first | omega | (simp; done) | (simp; omega))) (by first | omega | (simp; done) | (simp; omega))
  have c1_5_1 : w1.cell? ⟨w.heap.size + 1, 1, none⟩ = some (.float .f64 Y2) := bkeep hb1 (by first | assumption | (simp [go_sem]; done) | (simp [*]; done) | (simp [go_sem, *]; done) | exact bkeep (bl_alloc (Below.refl _ _)) (by assumption) (by first | omega | (simp; done) | (simp; omega))) (by first | omega | (simp; done) | (simp; omega))
  have l1_6 : w.heap.size + 1 + 1 < w1.heap.size := (by omega)
  have c1_7_0 : w1.cell? ⟨w.heap.size + 1 + 1, 0, none⟩ = some (.float .f64 0) := bkeep hb1 (by first | assumption | (simp [go_sem]; done) | (simp [*]; done) | (simp [go_sem, *]; done) | exact bkeep (bl_alloc (Below.refl _ _)) (by assumption) (by first | omega | (simp; done) | (simp; omega))) (by first | omega | (simp; done) | (simp; omega))
  have f1_7_0 : w1.frozen? ⟨w.heap.size + 1 + 1, 0, none⟩ = false := bfroz hb1 (by first | assumption | (simp [go_sem]; done) | (simp [*]; done) | (simp [go_sem, *]; done) | exact bfroz (bl_alloc (Below.refl _ _)) (by assumption) (by first | omega | (simp; done) | (simp; omega))) (by first | omega | (simp; done) | (simp; omega))
  have c1_8_1 : w1.cell? ⟨w.heap.size + 1 + 1, 1, none⟩ = some (.float .f64 0) := bkeep hb1 (by first | assumption | (simp [go_sem]; done) | (simp [*]; done) | (simp [go_sem, *]; done) | exact bkeep (bl_alloc (Below.refl _ _)) (by assumption) (by first | omega | (simp; done) | (simp; omega))) (by first | omega | (simp; done) | (simp; omega))
  have f1_8_1 : w1.frozen? ⟨w.heap.size + 1 + 1, 1, none⟩ = false := bfroz hb1 (by first | assumption | (simp [go_sem]; done) | (simp [*]; done) | (simp [go_sem, *]; done) | exact bfroz (bl_alloc (Below.refl _ _)) (by assumption) (by first | omega | (simp; done) | (simp; omega))) (by first | omega | (simp; done) | (simp; omega))
  go_wp2_with fail
  go_at_call 54
  refine (ny _).mono ?_
  rintro e w2 ⟨rfl, hb2⟩
  have s2 := hb2.size
  try simp at s2
  have l2_0 : w.heap.size < w2.heap.size := (by omega)
  have c2_1_0 : w2.cell? ⟨w.heap.size, 0, none⟩ = some (.float .f64 X1) := bkeep hb2 (by first | assumption | (simp [go_sem]; done) | (simp [*]; done) | (simp [go_sem, *]; done) | exact bkeep (bl_alloc (Below.refl _ _)) (by assumption) (by first | omega | (simp; done) | (simp; omega))) (by first | omega | (simp; done) | (simp; omega))
  have c2_2_1 : w2.cell? ⟨w.heap.size, 1, none⟩ = some (.float .f64 X2) := bkeep hb2 (by first | assumption | (simp [go_sem]; done) | (simp [*]; done) | (simp [go_sem, *]; done) | exact bkeep (bl_alloc (Below.refl _ _)) (by assumption) (by first | omega | (simp; done) | (simp; omega))) (by first | omega | (simp; done) | (simp; omega))
  have l2_3 : w.heap.size + 1 < w2.heap.size := (by omega)
  have c2_4_0 : w2.cell? ⟨w.heap.size + 1, 0, none⟩ = some (.float .f64 Y1) := bkeep hb2 (by first | assumption | (simp [go_sem]; done) | (simp [*]; done) | (simp [go_sem, *]; done) | exact bkeep (bl_alloc (Below.refl _ _)) (by assumption) (by first | omega | (simp; done) | (simp; omega))) (by first | omega | (simp; done) | (simp; omega))
  have c2_5_1 : w2.cell? ⟨w.heap.size + 1, 1, none⟩ = some (.float .f64 Y2) := bkeep hb2 (by first | assumption | (simp [go_sem]; done) | (simp [*]; done) | (simp [go_sem, *]; done) | exact bkeep (bl_alloc (Below.refl _ _)) (by assumption) (by first | omega | (simp; done) | (simp; omega))) (by first | omega | (simp; done) | (simp; omega))
  have l2_6 : w.heap.size + 1 + 1 < w2.heap.size := (by omega)
  have c2_7_0 : w2.cell? ⟨w.heap.size + 1 + 1, 0, none⟩ = some (.float .f64 0) := bkeep hb2 (by first | assumption | (simp [go_sem]; done) | (simp [*]; done) | (simp [go_sem, *]; done) | exact bkeep (bl_alloc (Below.refl _ _)) (by assumption) (by first | omega | (simp; done) | (simp; omega))) (by first | omega | (simp; done) | (simp; omega))
  have f2_7_0 : w2.frozen? ⟨w.heap.size + 1 + 1, 0, none⟩ = false := bfroz hb2 (by first | assumption | (simp [go_sem]; done) | (simp [*]; done) | (simp [go_sem, *]; done) | exact bfroz (bl_alloc (Below.refl _ _)) (by assumption) (by first | omega | (simp; done) | (simp; omega))) (by first | omega | (simp; done) | (simp; omega))
  have c2_8_1 : w2.cell? ⟨w.heap.size + 1 + 1, 1, none⟩ = some (.float .f64 0) := bkeep hb2 (by first | assumption | (simp [go_sem]; done) | (simp [*]; done) | (simp [go_sem, *]; done) | exact bkeep (bl_alloc (Below.refl _ _)) (by assumption) (by first | omega | (simp; done) | (simp; omega))) (by first | omega | (simp; done) | (simp; omega))
  have f2_8_1 : w2.frozen? ⟨w.heap.size + 1 + 1, 1, none⟩ = false := bfroz hb2 (by first | assumption | (simp [go_sem]; done) | (simp [*]; done) | (simp [go_sem, *]; done) | exact bfroz (bl_alloc (Below.refl _ _)) (by assumption) (by first | omega | (simp; done) | (simp; omega))) (by first | omega | (simp; done) | (simp; omega))
  clear l1_0 c1_1_0 c1_2_1 l1_3 c1_4_0 c1_5_1 l1_6 c1_7_0 f1_7_0 c1_8_1 f1_8_1
  go_wp2_with fail
  go_at_call 139
  refine (v _).mono ?_
  rintro e w3 ⟨rfl, hb3⟩
  have s3 := hb3.size
  try simp at s3
  have l3_0 : w.heap.size < w3.heap.size := (by omega)
  have c3_1_0 : w3.cell? ⟨w.heap.size, 0, none⟩ = some (.float .f64 X1) := bkeep hb3 (by first | assumption | (simp [go_sem]; done) | (simp [*]; done) | (simp [go_sem, *]; done) | exact bkeep (bl_alloc (Below.refl _ _)) (by assumption) (by first | omega | (simp; done) | (simp; omega))) (by first | omega | (simp; done) | (simp; omega))
  have c3_2_1 : w3.cell? ⟨w.heap.size, 1, none⟩ = some (.float .f64 X2) := bkeep hb3 (by first | assumption | (simp [go_sem]; done) | (simp [*]; done) | (simp [go_sem, *]; done) | exact bkeep (bl_alloc (Below.refl _ _)) (by assumption) (by first | omega | (simp; done) | (simp; omega))) (by first | omega | (simp; done) | (simp; omega))
  have l3_3 : w.heap.size + 1 < w3.heap.size := (by omega)
  have c3_4_0 : w3.cell? ⟨w.heap.size + 1, 0, none⟩ = some (.float .f64 Y1) := bkeep hb3 (by first | assumption | (simp [go_sem]; done) | (simp [*]; done) | (simp [go_sem, *]; done) | exact bkeep (bl_alloc (Below.refl _ _)) (by assumption) (by first | omega | (simp; done) | (simp; omega))) (by first | omega | (simp; done) | (simp; omega))
  have c3_5_1 : w3.cell? ⟨w.heap.size + 1, 1, none⟩ = some (.float .f64 Y2) := bkeep hb3 (by first | assumption | (simp [go_sem]; done) | (simp [*]; done) | (simp [go_sem, *]; done) | exact bkeep (bl_alloc (Below.refl _ _)) (by assumption) (by first | omega | (simp; done) | (simp; omega))) (by first | omega | (simp; done) | (simp; omega))
  have l3_6 : w.heap.size + 1 + 1 < w3.heap.size := (by omega)
  have c3_7_0 : w3.cell? ⟨w.heap.size + 1 + 1, 0, none⟩ = some (.float .f64 0) := bkeep hb3 (by first | assumption | (simp [go_sem]; done) | (simp [*]; done) | (simp [go_sem, *]; done) | exact bkeep (bl_alloc (Below.refl _ _)) (by assumption) (by first | omega | (simp; done) | (simp; omega))) (by first | omega | (simp; done) | (simp; omega))
  have f3_7_0 : w3.frozen? ⟨w.heap.size + 1 + 1, 0, none⟩ = false := bfroz hb3 (by first | assumption | (simp [go_sem]; done) | (simp [*]; done) | (simp [go_sem, *]; done) | exact bfroz (bl_alloc (Below.refl _ _)) (by assumption) (by first | omega | (simp; done) | (simp; omega))) (by first | omega | (simp; done) | (simp; omega))
  have c3_8_1 : w3.cell? ⟨w.heap.size + 1 + 1, 1, none⟩ = some (.float .f64 0) := bkeep hb3 (by first | assumption | (simp [go_sem]; done) | (simp [*]; done) | (simp [go_sem, *]; done) | exact bkeep (bl_alloc (Below.refl _ _)) (by assumption) (by first | omega | (simp; done) | (simp; omega))) (by first | omega | (simp; done) | (simp; omega))
  have f3_8_1 : w3.frozen? ⟨w.heap.size + 1 + 1, 1, none⟩ = false := bfroz hb3 (by first | assumption | (simp [go_sem]; done) | (simp [*]; done) | (simp [go_sem, *]; done) | exact bfroz (bl_alloc (Below.refl _ _)) (by assumption) (by first | omega | (simp; done) | (simp; omega))) (by first | omega | (simp; done) | (simp; omega))
  clear l2_0 c2_1_0 c2_2_1 l2_3 c2_4_0 c2_5_1 l2_6 c2_7_0 f2_7_0 c2_8_1 f2_8_1
  go_wp2_with fail
  go_at_call 145
  refine (p _).mono ?_
  rintro e w4 ⟨rfl, hb4⟩
  have s4 := hb4.size
  try simp at s4
  have l4_0 : w.heap.size < w4.heap.size := (by omega)
  have c4_1_0 : w4.cell? ⟨w.heap.size, 0, none⟩ = some (.float .f64 X1) := bkeep hb4 (by first | assumption | (simp [go_sem]; done) | (simp [*]; done) | (simp [go_sem, *]; done) | exact bkeep (bl_alloc (Below.refl _ _)) (by assumption) (by first | omega | (simp; done) | (simp; omega))) (by first | omega | (simp; done) | (simp; omega))
  have c4_2_1 : w4.cell? ⟨w.heap.size, 1, none⟩ = some (.float .f64 X2) := bkeep hb4 (by first | assumption | (simp [go_sem]; done) | (simp [*]; done) | (simp [go_sem, *]; done) | exact bkeep (bl_alloc (Below.refl _ _)) (by assumption) (by first | omega | (simp; done) | (simp; omega))) (by first | omega | (simp; done) | (simp; omega))
  have l4_3 : w.heap.size + 1 < w4.heap.size := (by omega)
  have c4_4_0 : w4.cell? ⟨w.heap.size + 1, 0, none⟩ = some (.float .f64 Y1) := bkeep hb4 (by first | assumption | (simp [go_sem]; done) | (simp [*]; done) | (simp [go_sem, *]; done) | exact bkeep (bl_alloc (Below.refl _ _)) (by assumption) (by first | omega | (simp; done) | (simp; omega))) (by first | omega | (simp; done) | (simp; omega))
  have c4_5_1 : w4.cell? ⟨w.heap.size + 1, 1, none⟩ = some (.float .f64 Y2) := bkeep hb4 (by first | assumption | (simp [go_sem]; done) | (simp [*]; done) | (simp [go_sem, *]; done) | exact bkeep (bl_alloc (Below.refl _ _)) (by assumption) (by first | omega | (simp; done) | (simp; omega))) (by first | omega | (simp; done) | (simp; omega))
  have l4_6 : w.heap.size + 1 + 1 < w4.heap.size := (by omega)
  have c4_7_0 : w4.cell? ⟨w.heap.size + 1 + 1, 0, none⟩ = some (.float .f64 0) := bkeep hb4 (by first | assumption | (simp [go_sem]; done) | (simp [*]; done) | (simp [go_sem, *]; done) | exact bkeep (bl_alloc (Below.refl _ _)) (by assumption) (by first | omega | (simp; done) | (simp; omega))) (by first | omega | (simp; done) | (simp; omega))
  have f4_7_0 : w4.frozen? ⟨w.heap.size + 1 + 1, 0, none⟩ = false := bfroz hb4 (by first | assumption | (simp [go_sem]; done) | (simp [*]; done) | (simp [go_sem, *]; done) | exact bfroz (bl_alloc (Below.refl _ _)) (by assumption) (by first | omega | (simp; done) | (simp; omega))) (by first | omega | (simp; done) | (simp; omega))
  have c4_8_1 : w4.cell? ⟨w.heap.size + 1 + 1, 1, none⟩ = some (.float .f64 0) := bkeep hb4 (by first | assumption | (simp [go_sem]; done) | (simp [*]; done) | (simp [go_sem, *]; done) | exact bkeep (bl_alloc (Below.refl _ _)) (by assumption) (by first | omega | (simp; done) | (simp; omega))) (by first | omega | (simp; done) | (simp; omega))
  have f4_8_1 : w4.frozen? ⟨w.heap.size + 1 + 1, 1, none⟩ = false := bfroz hb4 (by first | assumption | (simp [go_sem]; done) | (simp [*]; done) | (simp [go_sem, *]; done) | exact bfroz (bl_alloc (Below.refl _ _)) (by assumption) (by first | omega | (simp; done) | (simp; omega))) (by first | omega | (simp; done) | (simp; omega))
  clear l3_0 c3_1_0 c3_2_1 l3_3 c3_4_0 c3_5_1 l3_6 c3_7_0 f3_7_0 c3_8_1 f3_8_1
  go_wp2_with fail
  refine bodyPost_ret (v := .agg #[.float .f64 c, .float .f64 d]) (by simp [results, Try.results110, go_sem, *]) rfl ⟨rfl, ?_⟩
  repeat (first | exact Below.refl _ _ | assumption | refine Below.drew ?_ | refine bl_drewN ?_ _ | refine Below.setCell ?_ (by first | omega | (simp; done) | (simp; omega)) _ | refine Below.alloc ?_ (by first | omega | (simp; done) | (simp; omega)) _ | refine bl_next ?_ (by assumption) | refine bl_trans ?_ (by assumption) (by first | omega | (simp; done) | (simp; omega)))

set_option maxHeartbeats 2000000 in
theorem sqrt_no_w (X1 X2 I a b e1 e2 : Nat)
    (i1 : ∀ w, Calls Try.prog 31 #[.int .i64 1] w fun e w' => e = .returned (.float .f64 I) ∧ w' = w)
    (mt : ∀ w, Calls Try.prog 109 #[.agg #[.float .f64 X1, .float .f64 X2], .agg #[.float .f64 0, .float .f64 I]] w fun e w' => e = .returned (.agg #[.float .f64 a, .float .f64 b]) ∧ Below w.heap.size w w')
    (nz : ∀ w, Calls Try.prog 54 #[.agg #[.float .f64 a, .float .f64 b]] w fun e w' => e = .returned (.bool true) ∧ Below w.heap.size w w')
    (em : ∀ w, Calls Try.prog 137 #[] w fun e w' => e = .returned (.agg #[.float .f64 e1, .float .f64 e2]) ∧ Below w.heap.size w w') (w : World) :
    Calls Try.prog 108 #[.agg #[.float .f64 X1, .float .f64 X2]] w fun e w' => e = .returned (.agg #[.float .f64 e1, .float .f64 e2]) ∧ Below w.heap.size w w' := by
  go_enter Try.func108, Try.ntmps108
  go_wp2_with fail
  have c0_0_0 : ((w.alloc (.cells #[.float .f64 X1, .float .f64 X2] 32)).alloc (.cells #[.float .f64 0, .float .f64 0] 32)).cell? ⟨w.heap.size, 0, none⟩ = some (.float .f64 X1) := by simp [go_sem]
  have f0_0_0 : ((w.alloc (.cells #[.float .f64 X1, .float .f64 X2] 32)).alloc (.cells #[.float .f64 0, .float .f64 0] 32)).frozen? ⟨w.heap.size, 0, none⟩ = false := by simp [go_sem]
  have c0_1_1 : ((w.alloc (.cells #[.float .f64 X1, .float .f64 X2] 32)).alloc (.cells #[.float .f64 0, .float .f64 0] 32)).cell? ⟨w.heap.size, 1, none⟩ = some (.float .f64 X2) := by simp [go_sem]
  have f0_1_1 : ((w.alloc (.cells #[.float .f64 X1, .float .f64 X2] 32)).alloc (.cells #[.float .f64 0, .float .f64 0] 32)).frozen? ⟨w.heap.size, 1, none⟩ = false := by simp [go_sem]
  have c0_2_0 : ((w.alloc (.cells #[.float .f64 X1, .float .f64 X2] 32)).alloc (.cells #[.float .f64 0, .float .f64 0] 32)).cell? ⟨w.heap.size + 1, 0, none⟩ = some (.float .f64 0) := by simp [go_sem]
  have f0_2_0 : ((w.alloc (.cells #[.float .f64 X1, .float .f64 X2] 32)).alloc (.cells #[.float .f64 0, .float .f64 0] 32)).frozen? ⟨w.heap.size + 1, 0, none⟩ = false := by simp [go_sem]
  have c0_3_1 : ((w.alloc (.cells #[.float .f64 X1, .float .f64 X2] 32)).alloc (.cells #[.float .f64 0, .float .f64 0] 32)).cell? ⟨w.heap.size + 1, 1, none⟩ = some (.float .f64 0) := by simp [go_sem]
  have f0_3_1 : ((w.alloc (.cells #[.float .f64 X1, .float .f64 X2] 32)).alloc (.cells #[.float .f64 0, .float .f64 0] 32)).frozen? ⟨w.heap.size + 1, 1, none⟩ = false := by simp [go_sem]
  have s0 : w.heap.size + 1 + 1 ≤ ((w.alloc (.cells #[.float .f64 X1, .float .f64 X2] 32)).alloc (.cells #[.float .f64 0, .float .f64 0] 32)).heap.size := by simp
  have hB0 : Below w.heap.size w ((w.alloc (.cells #[.float .f64 X1, .float .f64 X2] 32)).alloc (.cells #[.float .f64 0, .float .f64 0] 32)) := by
    repeat (first | exact Below.refl _ _ | assumption | refine Below.drew ?_ | refine bl_drewN ?_ _ | refine Below.setCell ?_ (by first | omega | (simp; done) | (simp; omega)) _ | refine Below.alloc ?_ (by first | omega | (simp; done) | (simp; omega)) _ | refine bl_next ?_ (by assumption) | refine bl_trans ?_ (by assumption) (by first | omega | (simp; done) | (simp; omega)))
  generalize ((w.alloc (.cells #[.float .f64 X1, .float .f64 X2] 32)).alloc (.cells #[.float .f64 0, .float .f64 0] 32)) = w0 at *
  go_region_with (first | (go_at_call 31; with_reducible refine (i1 _).mono ?_; rintro e w' ⟨rfl, rfl⟩) | (go_at_call 109; with_reducible refine (mt _).mono ?_; rintro e w' ⟨rfl, hb⟩; have s0' := hb.size; try simp at s0'; have : w'.cell? ⟨w.heap.size, 0, none⟩ = some (.float .f64 X1) := bkeep2 hb (by simp [*]); have : w'.frozen? ⟨w.heap.size, 0, none⟩ = false := bfroz2 hb (by simp [*]; rfl) (by simp [*]); have : w'.cell? ⟨w.heap.size, 1, none⟩ = some (.float .f64 X2) := bkeep2 hb (by simp [*]); have : w'.frozen? ⟨w.heap.size, 1, none⟩ = false := bfroz2 hb (by simp [*]; rfl) (by simp [*]); have : w'.cell? ⟨w.heap.size + 1, 0, none⟩ = some (.float .f64 0) := bkeep2 hb (by simp [*]); have : w'.frozen? ⟨w.heap.size + 1, 0, none⟩ = false := bfroz2 hb (by simp [*]; rfl) (by simp [*]); have : w'.cell? ⟨w.heap.size + 1, 1, none⟩ = some (.float .f64 0) := bkeep2 hb (by simp [*]); have : w'.frozen? ⟨w.heap.size + 1, 1, none⟩ = false := bfroz2 hb (by simp [*]; rfl) (by simp [*])))
  all_goals (go_wp2_with fail; go_at_call 54; refine (nz _).mono ?_; rintro e w1 ⟨rfl, hb1⟩; have s1 := hb1.size; (try simp at s1); have l1_0 : w.heap.size < w1.heap.size := (by omega); have c1_1_0 : w1.cell? ⟨w.heap.size, 0, none⟩ = some (.float .f64 a) := bkeep hb1 (by first | assumption | (simp [go_sem]; done) | (simp [*]; done) | (simp [go_sem, *]; done) | exact bkeep (bl_alloc (Below.refl _ _)) (by assumption) (by first | omega | (simp; done) | (simp; omega))) (by first | omega | (simp; done) | (simp; omega)); have c1_2_1 : w1.cell? ⟨w.heap.size, 1, none⟩ = some (.float .f64 b) := bkeep hb1 (by first | assumption | (simp [go_sem]; done) | (simp [*]; done) | (simp [go_sem, *]; done) | exact bkeep (bl_alloc (Below.refl _ _)) (by assumption) (by first | omega | (simp; done) | (simp; omega))) (by first | omega | (simp; done) | (simp; omega)); have l1_3 : w.heap.size + 1 < w1.heap.size := (by omega); have c1_4_0 : w1.cell? ⟨w.heap.size + 1, 0, none⟩ = some (.float .f64 0) := bkeep hb1 (by first | assumption | (simp [go_sem]; done) | (simp [*]; done) | (simp [go_sem, *]; done) | exact bkeep (bl_alloc (Below.refl _ _)) (by assumption) (by first | omega | (simp; done) | (simp; omega))) (by first | omega | (simp; done) | (simp; omega)); have f1_4_0 : w1.frozen? ⟨w.heap.size + 1, 0, none⟩ = false := bfroz hb1 (by first | assumption | (simp [go_sem]; done) | (simp [*]; done) | (simp [go_sem, *]; done) | exact bfroz (bl_alloc (Below.refl _ _)) (by assumption) (by first | omega | (simp; done) | (simp; omega))) (by first | omega | (simp; done) | (simp; omega)); have c1_5_1 : w1.cell? ⟨w.heap.size + 1, 1, none⟩ = some (.float .f64 0) := bkeep hb1 (by first | assumption | (simp [go_sem]; done) | (simp [*]; done) | (simp [go_sem, *]; done) | exact bkeep (bl_alloc (Below.refl _ _)) (by assumption) (by first | omega | (simp; done) | (simp; omega))) (by first | omega | (simp; done) | (simp; omega)); have f1_5_1 : w1.frozen? ⟨w.heap.size + 1, 1, none⟩ = false := bfroz hb1 (by first | assumption | (simp [go_sem]; done) | (simp [*]; done) | (simp [go_sem, *]; done) | exact bfroz (bl_alloc (Below.refl _ _)) (by assumption) (by first | omega | (simp; done) | (simp; omega))) (by first | omega | (simp; done) | (simp; omega)); go_wp2_with fail; go_at_call 137; refine (em _).mono ?_; rintro e w2 ⟨rfl, hb2⟩; have s2 := hb2.size; (try simp at s2); have l2_0 : w.heap.size < w2.heap.size := (by omega); have c2_1_0 : w2.cell? ⟨w.heap.size, 0, none⟩ = some (.float .f64 a) := bkeep hb2 (by first | assumption | (simp [go_sem]; done) | (simp [*]; done) | (simp [go_sem, *]; done) | exact bkeep (bl_alloc (Below.refl _ _)) (by assumption) (by first | omega | (simp; done) | (simp; omega))) (by first | omega | (simp; done) | (simp; omega)); have c2_2_1 : w2.cell? ⟨w.heap.size, 1, none⟩ = some (.float .f64 b) := bkeep hb2 (by first | assumption | (simp [go_sem]; done) | (simp [*]; done) | (simp [go_sem, *]; done) | exact bkeep (bl_alloc (Below.refl _ _)) (by assumption) (by first | omega | (simp; done) | (simp; omega))) (by first | omega | (simp; done) | (simp; omega)); have l2_3 : w.heap.size + 1 < w2.heap.size := (by omega); have c2_4_0 : w2.cell? ⟨w.heap.size + 1, 0, none⟩ = some (.float .f64 0) := bkeep hb2 (by first | assumption | (simp [go_sem]; done) | (simp [*]; done) | (simp [go_sem, *]; done) | exact bkeep (bl_alloc (Below.refl _ _)) (by assumption) (by first | omega | (simp; done) | (simp; omega))) (by first | omega | (simp; done) | (simp; omega)); have f2_4_0 : w2.frozen? ⟨w.heap.size + 1, 0, none⟩ = false := bfroz hb2 (by first | assumption | (simp [go_sem]; done) | (simp [*]; done) | (simp [go_sem, *]; done) | exact bfroz (bl_alloc (Below.refl _ _)) (by assumption) (by first | omega | (simp; done) | (simp; omega))) (by first | omega | (simp; done) | (simp; omega)); have c2_5_1 : w2.cell? ⟨w.heap.size + 1, 1, none⟩ = some (.float .f64 0) := bkeep hb2 (by first | assumption | (simp [go_sem]; done) | (simp [*]; done) | (simp [go_sem, *]; done) | exact bkeep (bl_alloc (Below.refl _ _)) (by assumption) (by first | omega | (simp; done) | (simp; omega))) (by first | omega | (simp; done) | (simp; omega)); have f2_5_1 : w2.frozen? ⟨w.heap.size + 1, 1, none⟩ = false := bfroz hb2 (by first | assumption | (simp [go_sem]; done) | (simp [*]; done) | (simp [go_sem, *]; done) | exact bfroz (bl_alloc (Below.refl _ _)) (by assumption) (by first | omega | (simp; done) | (simp; omega))) (by first | omega | (simp; done) | (simp; omega)); clear l1_0 c1_1_0 c1_2_1 l1_3 c1_4_0 f1_4_0 c1_5_1 f1_5_1; go_wp2_with fail; refine bodyPost_ret (v := .agg #[.float .f64 e1, .float .f64 e2]) (by simp [results, Try.results108, go_sem, *]) rfl ⟨rfl, ?_⟩; (repeat (first | exact Below.refl _ _ | assumption | refine Below.drew ?_ | refine bl_drewN ?_ _ | refine Below.setCell ?_ (by first | omega | (simp; done) | (simp; omega)) _ | refine Below.alloc ?_ (by first | omega | (simp; done) | (simp; omega)) _ | refine bl_next ?_ (by assumption) | refine bl_trans ?_ (by assumption) (by first | omega | (simp; done) | (simp; omega)))))

set_option maxHeartbeats 2000000 in
theorem sqrt_ok_w (X1 X2 I a b d1 u1 d2 u2 : Nat)
    (i1 : ∀ w, Calls Try.prog 31 #[.int .i64 1] w fun e w' => e = .returned (.float .f64 I) ∧ w' = w)
    (mt : ∀ w, Calls Try.prog 109 #[.agg #[.float .f64 X1, .float .f64 X2], .agg #[.float .f64 0, .float .f64 I]] w fun e w' => e = .returned (.agg #[.float .f64 a, .float .f64 b]) ∧ Below w.heap.size w w')
    (nz : ∀ w, Calls Try.prog 54 #[.agg #[.float .f64 a, .float .f64 b]] w fun e w' => e = .returned (.bool false) ∧ Below w.heap.size w w')
    (q1 : ∀ w, Calls Try.prog 86 #[.float .f64 a] w fun e w' => e = .returned (.tuple #[.float .f64 d1, .float .f64 u1]) ∧ Below w.heap.size w w')
    (q2 : ∀ w, Calls Try.prog 86 #[.float .f64 b] w fun e w' => e = .returned (.tuple #[.float .f64 d2, .float .f64 u2]) ∧ Below w.heap.size w w') (w : World) :
    Calls Try.prog 108 #[.agg #[.float .f64 X1, .float .f64 X2]] w fun e w' => e = .returned (.agg #[.float .f64 d1, .float .f64 u2]) ∧ Below w.heap.size w w' := by
  go_enter Try.func108, Try.ntmps108
  go_wp2_with fail
  have c0_0_0 : ((w.alloc (.cells #[.float .f64 X1, .float .f64 X2] 32)).alloc (.cells #[.float .f64 0, .float .f64 0] 32)).cell? ⟨w.heap.size, 0, none⟩ = some (.float .f64 X1) := by simp [go_sem]
  have f0_0_0 : ((w.alloc (.cells #[.float .f64 X1, .float .f64 X2] 32)).alloc (.cells #[.float .f64 0, .float .f64 0] 32)).frozen? ⟨w.heap.size, 0, none⟩ = false := by simp [go_sem]
  have c0_1_1 : ((w.alloc (.cells #[.float .f64 X1, .float .f64 X2] 32)).alloc (.cells #[.float .f64 0, .float .f64 0] 32)).cell? ⟨w.heap.size, 1, none⟩ = some (.float .f64 X2) := by simp [go_sem]
  have f0_1_1 : ((w.alloc (.cells #[.float .f64 X1, .float .f64 X2] 32)).alloc (.cells #[.float .f64 0, .float .f64 0] 32)).frozen? ⟨w.heap.size, 1, none⟩ = false := by simp [go_sem]
  have c0_2_0 : ((w.alloc (.cells #[.float .f64 X1, .float .f64 X2] 32)).alloc (.cells #[.float .f64 0, .float .f64 0] 32)).cell? ⟨w.heap.size + 1, 0, none⟩ = some (.float .f64 0) := by simp [go_sem]
  have f0_2_0 : ((w.alloc (.cells #[.float .f64 X1, .float .f64 X2] 32)).alloc (.cells #[.float .f64 0, .float .f64 0] 32)).frozen? ⟨w.heap.size + 1, 0, none⟩ = false := by simp [go_sem]
  have c0_3_1 : ((w.alloc (.cells #[.float .f64 X1, .float .f64 X2] 32)).alloc (.cells #[.float .f64 0, .float .f64 0] 32)).cell? ⟨w.heap.size + 1, 1, none⟩ = some (.float .f64 0) := by simp [go_sem]
  have f0_3_1 : ((w.alloc (.cells #[.float .f64 X1, .float .f64 X2] 32)).alloc (.cells #[.float .f64 0, .float .f64 0] 32)).frozen? ⟨w.heap.size + 1, 1, none⟩ = false := by simp [go_sem]
  have s0 : w.heap.size + 1 + 1 ≤ ((w.alloc (.cells #[.float .f64 X1, .float .f64 X2] 32)).alloc (.cells #[.float .f64 0, .float .f64 0] 32)).heap.size := by simp
  have hB0 : Below w.heap.size w ((w.alloc (.cells #[.float .f64 X1, .float .f64 X2] 32)).alloc (.cells #[.float .f64 0, .float .f64 0] 32)) := by
    repeat (first | exact Below.refl _ _ | assumption | refine Below.drew ?_ | refine bl_drewN ?_ _ | refine Below.setCell ?_ (by first | omega | (simp; done) | (simp; omega)) _ | refine Below.alloc ?_ (by first | omega | (simp; done) | (simp; omega)) _ | refine bl_next ?_ (by assumption) | refine bl_trans ?_ (by assumption) (by first | omega | (simp; done) | (simp; omega)))
  generalize ((w.alloc (.cells #[.float .f64 X1, .float .f64 X2] 32)).alloc (.cells #[.float .f64 0, .float .f64 0] 32)) = w0 at *
  go_region_with (first | (go_at_call 31; with_reducible refine (i1 _).mono ?_; rintro e w' ⟨rfl, rfl⟩) | (go_at_call 109; with_reducible refine (mt _).mono ?_; rintro e w' ⟨rfl, hb⟩; have s0' := hb.size; try simp at s0'; have : w'.cell? ⟨w.heap.size, 0, none⟩ = some (.float .f64 X1) := bkeep2 hb (by simp [*]); have : w'.frozen? ⟨w.heap.size, 0, none⟩ = false := bfroz2 hb (by simp [*]; rfl) (by simp [*]); have : w'.cell? ⟨w.heap.size, 1, none⟩ = some (.float .f64 X2) := bkeep2 hb (by simp [*]); have : w'.frozen? ⟨w.heap.size, 1, none⟩ = false := bfroz2 hb (by simp [*]; rfl) (by simp [*]); have : w'.cell? ⟨w.heap.size + 1, 0, none⟩ = some (.float .f64 0) := bkeep2 hb (by simp [*]); have : w'.frozen? ⟨w.heap.size + 1, 0, none⟩ = false := bfroz2 hb (by simp [*]; rfl) (by simp [*]); have : w'.cell? ⟨w.heap.size + 1, 1, none⟩ = some (.float .f64 0) := bkeep2 hb (by simp [*]); have : w'.frozen? ⟨w.heap.size + 1, 1, none⟩ = false := bfroz2 hb (by simp [*]; rfl) (by simp [*])))
  all_goals (go_wp2_with fail; go_at_call 54; refine (nz _).mono ?_; rintro e w1 ⟨rfl, hb1⟩; have s1 := hb1.size; (try simp at s1); have l1_0 : w.heap.size < w1.heap.size := (by omega); have c1_1_0 : w1.cell? ⟨w.heap.size, 0, none⟩ = some (.float .f64 a) := bkeep hb1 (by first | assumption | (simp [go_sem]; done) | (simp [*]; done) | (simp [go_sem, *]; done) | exact bkeep (bl_alloc (Below.refl _ _)) (by assumption) (by first | omega | (simp; done) | (simp; omega))) (by first | omega | (simp; done) | (simp; omega)); have c1_2_1 : w1.cell? ⟨w.heap.size, 1, none⟩ = some (.float .f64 b) := bkeep hb1 (by first | assumption | (simp [go_sem]; done) | (simp [*]; done) | (simp [go_sem, *]; done) | exact bkeep (bl_alloc (Below.refl _ _)) (by assumption) (by first | omega | (simp; done) | (simp; omega))) (by first | omega | (simp; done) | (simp; omega)); have l1_3 : w.heap.size + 1 < w1.heap.size := (by omega); have c1_4_0 : w1.cell? ⟨w.heap.size + 1, 0, none⟩ = some (.float .f64 0) := bkeep hb1 (by first | assumption | (simp [go_sem]; done) | (simp [*]; done) | (simp [go_sem, *]; done) | exact bkeep (bl_alloc (Below.refl _ _)) (by assumption) (by first | omega | (simp; done) | (simp; omega))) (by first | omega | (simp; done) | (simp; omega)); have f1_4_0 : w1.frozen? ⟨w.heap.size + 1, 0, none⟩ = false := bfroz hb1 (by first | assumption | (simp [go_sem]; done) | (simp [*]; done) | (simp [go_sem, *]; done) | exact bfroz (bl_alloc (Below.refl _ _)) (by assumption) (by first | omega | (simp; done) | (simp; omega))) (by first | omega | (simp; done) | (simp; omega)); have c1_5_1 : w1.cell? ⟨w.heap.size + 1, 1, none⟩ = some (.float .f64 0) := bkeep hb1 (by first | assumption | (simp [go_sem]; done) | (simp [*]; done) | (simp [go_sem, *]; done) | exact bkeep (bl_alloc (Below.refl _ _)) (by assumption) (by first | omega | (simp; done) | (simp; omega))) (by first | omega | (simp; done) | (simp; omega)); have f1_5_1 : w1.frozen? ⟨w.heap.size + 1, 1, none⟩ = false := bfroz hb1 (by first | assumption | (simp [go_sem]; done) | (simp [*]; done) | (simp [go_sem, *]; done) | exact bfroz (bl_alloc (Below.refl _ _)) (by assumption) (by first | omega | (simp; done) | (simp; omega))) (by first | omega | (simp; done) | (simp; omega)); go_wp2_with fail; go_at_call 86; refine (q1 _).mono ?_; rintro e w2 ⟨rfl, hb2⟩; have s2 := hb2.size; (try simp at s2); have l2_0 : w.heap.size < w2.heap.size := (by omega); have c2_1_0 : w2.cell? ⟨w.heap.size, 0, none⟩ = some (.float .f64 a) := bkeep hb2 (by first | assumption | (simp [go_sem]; done) | (simp [*]; done) | (simp [go_sem, *]; done) | exact bkeep (bl_alloc (Below.refl _ _)) (by assumption) (by first | omega | (simp; done) | (simp; omega))) (by first | omega | (simp; done) | (simp; omega)); have c2_2_1 : w2.cell? ⟨w.heap.size, 1, none⟩ = some (.float .f64 b) := bkeep hb2 (by first | assumption | (simp [go_sem]; done) | (simp [*]; done) | (simp [go_sem, *]; done) | exact bkeep (bl_alloc (Below.refl _ _)) (by assumption) (by first | omega | (simp; done) | (simp; omega))) (by first | omega | (simp; done) | (simp; omega)); have l2_3 : w.heap.size + 1 < w2.heap.size := (by omega); have c2_4_0 : w2.cell? ⟨w.heap.size + 1, 0, none⟩ = some (.float .f64 0) := bkeep hb2 (by first | assumption | (simp [go_sem]; done) | (simp [*]; done) | (simp [go_sem, *]; done) | exact bkeep (bl_alloc (Below.refl _ _)) (by assumption) (by first | omega | (simp; done) | (simp; omega))) (by first | omega | (simp; done) | (simp; omega)); have f2_4_0 : w2.frozen? ⟨w.heap.size + 1, 0, none⟩ = false := bfroz hb2 (by first | assumption | (simp [go_sem]; done) | (simp [*]; done) | (simp [go_sem, *]; done) | exact bfroz (bl_alloc (Below.refl _ _)) (by assumption) (by first | omega | (simp; done) | (simp; omega))) (by first | omega | (simp; done) | (simp; omega)); have c2_5_1 : w2.cell? ⟨w.heap.size + 1, 1, none⟩ = some (.float .f64 0) := bkeep hb2 (by first | assumption | (simp [go_sem]; done) | (simp [*]; done) | (simp [go_sem, *]; done) | exact bkeep (bl_alloc (Below.refl _ _)) (by assumption) (by first | omega | (simp; done) | (simp; omega))) (by first | omega | (simp; done) | (simp; omega)); have f2_5_1 : w2.frozen? ⟨w.heap.size + 1, 1, none⟩ = false := bfroz hb2 (by first | assumption | (simp [go_sem]; done) | (simp [*]; done) | (simp [go_sem, *]; done) | exact bfroz (bl_alloc (Below.refl _ _)) (by assumption) (by first | omega | (simp; done) | (simp; omega))) (by first | omega | (simp; done) | (simp; omega)); clear l1_0 c1_1_0 c1_2_1 l1_3 c1_4_0 f1_4_0 c1_5_1 f1_5_1; go_wp2_with fail; go_at_call 86; refine (q2 _).mono ?_; rintro e w3 ⟨rfl, hb3⟩; have s3 := hb3.size; (try simp at s3); have l3_0 : w.heap.size < w3.heap.size := (by omega); have c3_1_0 : w3.cell? ⟨w.heap.size, 0, none⟩ = some (.float .f64 a) := bkeep hb3 (by first | assumption | (simp [go_sem]; done) | (simp [*]; done) | (simp [go_sem, *]; done) | exact bkeep (bl_alloc (Below.refl _ _)) (by assumption) (by first | omega | (simp; done) | (simp; omega))) (by first | omega | (simp; done) | (simp; omega)); have c3_2_1 : w3.cell? ⟨w.heap.size, 1, none⟩ = some (.float .f64 b) := bkeep hb3 (by first | assumption | (simp [go_sem]; done) | (simp [*]; done) | (simp [go_sem, *]; done) | exact bkeep (bl_alloc (Below.refl _ _)) (by assumption) (by first | omega | (simp; done) | (simp; omega))) (by first | omega | (simp; done) | (simp; omega)); have l3_3 : w.heap.size + 1 < w3.heap.size := (by omega); have c3_4_0 : w3.cell? ⟨w.heap.size + 1, 0, none⟩ = some (.float .f64 0) := bkeep hb3 (by first | assumption | (simp [go_sem]; done) | (simp [*]; done) | (simp [go_sem, *]; done) | exact bkeep (bl_alloc (Below.refl _ _)) (by assumption) (by first | omega | (simp; done) | (simp; omega))) (by first | omega | (simp; done) | (simp; omega)); have f3_4_0 : w3.frozen? ⟨w.heap.size + 1, 0, none⟩ = false := bfroz hb3 (by first | assumption | (simp [go_sem]; done) | (simp [*]; done) | (simp [go_sem, *]; done) | exact bfroz (bl_alloc (Below.refl _ _)) (by assumption) (by first | omega | (simp; done) | (simp; omega))) (by first | omega | (simp; done) | (simp; omega)); have c3_5_1 : w3.cell? ⟨w.heap.size + 1, 1, none⟩ = some (.float .f64 0) := bkeep hb3 (by first | assumption | (simp [go_sem]; done) | (simp [*]; done) | (simp [go_sem, *]; done) | exact bkeep (bl_alloc (Below.refl _ _)) (by assumption) (by first | omega | (simp; done) | (simp; omega))) (by first | omega | (simp; done) | (simp; omega)); have f3_5_1 : w3.frozen? ⟨w.heap.size + 1, 1, none⟩ = false := bfroz hb3 (by first | assumption | (simp [go_sem]; done) | (simp [*]; done) | (simp [go_sem, *]; done) | exact bfroz (bl_alloc (Below.refl _ _)) (by assumption) (by first | omega | (simp; done) | (simp; omega))) (by first | omega | (simp; done) | (simp; omega)); clear l2_0 c2_1_0 c2_2_1 l2_3 c2_4_0 f2_4_0 c2_5_1 f2_5_1; go_wp2_with fail; refine bodyPost_ret (v := .agg #[.float .f64 d1, .float .f64 u2]) (by simp [results, Try.results108, go_sem, *]) rfl ⟨rfl, ?_⟩; (repeat (first | exact Below.refl _ _ | assumption | refine Below.drew ?_ | refine bl_drewN ?_ _ | refine Below.setCell ?_ (by first | omega | (simp; done) | (simp; omega)) _ | refine Below.alloc ?_ (by first | omega | (simp; done) | (simp; omega)) _ | refine bl_next ?_ (by assumption) | refine bl_trans ?_ (by assumption) (by first | omega | (simp; done) | (simp; omega)))))

end Go.Proofs.Ytacnclofbnafiaa
