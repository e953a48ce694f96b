import Derived.Test.YtacnclofbnafiaaK15
import Derived.Test.YtacnclofbnafiaaK8
import Derived.Deep.DeepCutAuto
namespace Go.Proofs.Ytacnclofbnafiaa
open Go.RowKit Fl

theorem rsqr_no_w (X1 X2 e1 e2 : Nat)
    (nx : ∀ w, Calls Try.prog 97 #[.agg #[.float .f64 X1, .float .f64 X2]] w fun e w' => e = .returned (.bool true) ∧ Below w.heap.size w w')
    (em : ∀ w, Calls Try.prog 98 #[] w fun e w' => e = .returned (.agg #[.float .f64 e1, .float .f64 e2]) ∧ Below w.heap.size w w') (w : World) :
    Calls Try.prog 43 #[.agg #[.float .f64 X1, .float .f64 X2]] w fun e w' => e = .returned (.agg #[.float .f64 e1, .float .f64 e2]) ∧ Below w.heap.size w w' := by
  go_enter Try.func43, Try.ntmps43
  go_wp2_with fail
  go_at_call 97
  refine (nx _).mono ?_
  rintro e w1 ⟨rfl, hb1⟩
  have s1 := hb1.size
  try simp at s1
  have l1_0 : w.heap.size < w1.heap.size := (by omega)
  have c1_1_0 : w1.cell? ⟨w.heap.size, 0, none⟩ = some (.float .f64 X1) := bkeep hb1 (by first | assumption | (simp [go_sem]; done) | (simp [*]; done) | (simp [go_sem, *]; done) | exact bkeep (bl_alloc (Below.refl _ _)) (by assumption) (by first | omega | (simp; done) | (simp; omega))) (by first | omega | (simp; done) | (simp; omega))
  have c1_2_1 : w1.cell? ⟨w.heap.size, 1, none⟩ = some (.float .f64 X2) := bkeep hb1 (by first | assumption | (simp [go_sem]; done) | (simp [*]; done) | (simp [go_sem, *]; done) | exact bkeep (bl_alloc (Below.refl _ _)) (by assumption) (by first | omega | (simp; done) | (simp; omega))) (by first | omega | (simp; done) | (simp; omega))
  have l1_3 : w.heap.size + 1 < w1.heap.size := (by omega)
  have c1_4_0 : w1.cell? ⟨w.heap.size + 1, 0, none⟩ = some (.float .f64 0) := bkeep hb1 (by first | assumption | (simp [go_sem]; done) | (simp [*]; done) | (simp [go_sem, *]; done) | exact bkeep (bl_alloc (Below.refl _ _)) (by assumption) (by first | omega | (simp; done) | (simp; omega))) (by first | omega | (simp; done) | (simp; omega))
  have f1_4_0 : w1.frozen? ⟨w.heap.size + 1, 0, none⟩ = false := bfroz hb1 (by first | assumption | (simp [go_sem]; done) | (simp [*]; done) | (simp [go_sem, *]; done) | exact bfroz (bl_alloc (Below.refl _ _)) (by assumption) (by first | omega | (simp; done) | (simp; omega))) (by first | omega | (simp; done) | (simp; omega))
  have c1_5_1 : w1.cell? ⟨w.heap.size + 1, 1, none⟩ = some (.float .f64 0) := bkeep hb1 (by first | assumption | (simp [go_sem]; done) | (simp [*]; done) | (simp [go_sem, *]; done) | exact bkeep (bl_alloc (Below.refl _ _)) (by assumption) (by first | omega | (simp; done) | (simp; omega))) (by first | omega | (simp; done) | (simp; omega))
  have f1_5_1 : w1.frozen? ⟨w.heap.size + 1, 1, none⟩ = false := bfroz hb1 (by first | assumption | (simp [go_sem]; done) | (simp [*]; done) | (simp [go_sem, *]; done) | exact bfroz (bl_alloc (Below.refl _ _)) (by assumption) (by first | omega | (simp; done) | (simp; omega))) (by first | omega | (simp; done) | (simp; omega))
  go_wp2_with fail
  go_at_call 98
  refine (em _).mono ?_
  rintro e w2 ⟨rfl, hb2⟩
  have s2 := hb2.size
  try simp at s2
  have l2_0 : w.heap.size < w2.heap.size := (by omega)
  have c2_1_0 : w2.cell? ⟨w.heap.size, 0, none⟩ = some (.float .f64 X1) := bkeep hb2 (by first | assumption | (simp [go_sem]; done) | (simp [*]; done) | (simp [go_sem, *]; done) | exact bkeep (bl_alloc (Below.refl _ _)) (by assumption) (by first | omega | (simp; done) | (simp; omega))) (by first | omega | (simp; done) | (simp; omega))
  have c2_2_1 : w2.cell? ⟨w.heap.size, 1, none⟩ = some (.float .f64 X2) := bkeep hb2 (by first | assumption | (simp [go_sem]; done) | (simp [*]; done) | (simp [go_sem, *]; done) | exact bkeep (bl_alloc (Below.refl _ _)) (by assumption) (by first | omega | (simp; done) | (simp; omega))) (by first | omega | (simp; done) | (simp; omega))
  have l2_3 : w.heap.size + 1 < w2.heap.size := (by omega)
  have c2_4_0 : w2.cell? ⟨w.heap.size + 1, 0, none⟩ = some (.float .f64 0) := bkeep hb2 (by first | assumption | (simp [go_sem]; done) | (simp [*]; done) | (simp [go_sem, *]; done) | exact bkeep (bl_alloc (Below.refl _ _)) (by assumption) (by first | omega | (simp; done) | (simp; omega))) (by first | omega | (simp; done) | (simp; omega))
  have f2_4_0 : w2.frozen? ⟨w.heap.size + 1, 0, none⟩ = false := bfroz hb2 (by first | assumption | (simp [go_sem]; done) | (simp [*]; done) | (simp [go_sem, *]; done) | exact bfroz (bl_alloc (Below.refl _ _)) (by assumption) (by first | omega | (simp; done) | (simp; omega))) (by first | omega | (simp; done) | (simp; omega))
  have c2_5_1 : w2.cell? ⟨w.heap.size + 1, 1, none⟩ = some (.float .f64 0) := bkeep hb2 (by first | assumption | (simp [go_sem]; done) | (simp [*]; done) | (simp [go_sem, *]; done) | exact bkeep (bl_alloc (Below.refl _ _)) (by assumption) (by first | omega | (simp; done) | (simp; omega))) (by first | omega | (simp; done) | (simp; omega))
  have f2_5_1 : w2.frozen? ⟨w.heap.size + 1, 1, none⟩ = false := bfroz hb2 (by first | assumption | (simp [go_sem]; done) | (simp [*]; done) | (simp [go_sem, *]; done) | exact bfroz (bl_alloc (Below.refl _ _)) (by assumption) (by first | omega | (simp; done) | (simp; omega))) (by first | omega | (simp; done) | (simp; omega))
  clear l1_0 c1_1_0 c1_2_1 l1_3 c1_4_0 f1_4_0 c1_5_1 f1_5_1
  go_wp2_with fail
  refine bodyPost_ret (v := .agg #[.float .f64 e1, .float .f64 e2]) (by simp [results, Try.results43, go_sem, *]) rfl ⟨rfl, ?_⟩
  repeat (first | exact Below.refl _ _ | assumption | refine Below.drew ?_ | refine bl_drewN ?_ _ | refine Below.setCell ?_ (by first | omega | (simp; done) | (simp; omega)) _ | refine Below.alloc ?_ (by first | omega | (simp; done) | (simp; omega)) _ | refine bl_next ?_ (by assumption) | refine bl_trans ?_ (by assumption) (by first | omega | (simp; done) | (simp; omega)))

theorem rsqr_pos_w (X1 X2 p1 p2 : Nat)
    (nx : ∀ w, Calls Try.prog 97 #[.agg #[.float .f64 X1, .float .f64 X2]] w fun e w' => e = .returned (.bool false) ∧ Below w.heap.size w w')
    (pr : ∀ w, Calls Try.prog 39 #[.agg #[.float .f64 X1, .float .f64 X2], .agg #[.float .f64 X1, .float .f64 X2]] w fun e w' => e = .returned (.agg #[.float .f64 p1, .float .f64 p2]) ∧ Below w.heap.size w w')
    (o1 : (Ieee.double.order X1 0 == some .lt || Ieee.double.order X1 0 == some .eq) = false) (w : World) :
    Calls Try.prog 43 #[.agg #[.float .f64 X1, .float .f64 X2]] w fun e w' => e = .returned (.agg #[.float .f64 p1, .float .f64 p2]) ∧ Below w.heap.size w w' := by
  go_enter Try.func43, Try.ntmps43
  go_wp2_with fail
  go_at_call 97
  refine (nx _).mono ?_
  rintro e w1 ⟨rfl, hb1⟩
  have s1 := hb1.size
  try simp at s1
  have l1_0 : w.heap.size < w1.heap.size := (by omega)
  have c1_1_0 : w1.cell? ⟨w.heap.size, 0, none⟩ = some (.float .f64 X1) := bkeep hb1 (by first | assumption | (simp [go_sem]; done) | (simp [*]; done) | (simp [go_sem, *]; done) | exact bkeep (bl_alloc (Below.refl _ _)) (by assumption) (by first | omega | (simp; done) | (simp; omega))) (by first | omega | (simp; done) | (simp; omega))
  have c1_2_1 : w1.cell? ⟨w.heap.size, 1, none⟩ = some (.float .f64 X2) := bkeep hb1 (by first | assumption | (simp [go_sem]; done) | (simp [*]; done) | (simp [go_sem, *]; done) | exact bkeep (bl_alloc (Below.refl _ _)) (by assumption) (by first | omega | (simp; done) | (simp; omega))) (by first | omega | (simp; done) | (simp; omega))
  have l1_3 : w.heap.size + 1 < w1.heap.size := (by omega)
  have c1_4_0 : w1.cell? ⟨w.heap.size + 1, 0, none⟩ = some (.float .f64 0) := bkeep hb1 (by first | assumption | (simp [go_sem]; done) | (simp [*]; done) | (simp [go_sem, *]; done) | exact bkeep (bl_alloc (Below.refl _ _)) (by assumption) (by first | omega | (simp; done) | (simp; omega))) (by first | omega | (simp; done) | (simp; omega))
  have f1_4_0 : w1.frozen? ⟨w.heap.size + 1, 0, none⟩ = false := bfroz hb1 (by first | assumption | (simp [go_sem]; done) | (simp [*]; done) | (simp [go_sem, *]; done) | exact bfroz (bl_alloc (Below.refl _ _)) (by assumption) (by first | omega | (simp; done) | (simp; omega))) (by first | omega | (simp; done) | (simp; omega))
  have c1_5_1 : w1.cell? ⟨w.heap.size + 1, 1, none⟩ = some (.float .f64 0) := bkeep hb1 (by first | assumption | (simp [go_sem]; done) | (simp [*]; done) | (simp [go_sem, *]; done) | exact bkeep (bl_alloc (Below.refl _ _)) (by assumption) (by first | omega | (simp; done) | (simp; omega))) (by first | omega | (simp; done) | (simp; omega))
  have f1_5_1 : w1.frozen? ⟨w.heap.size + 1, 1, none⟩ = false := bfroz hb1 (by first | assumption | (simp [go_sem]; done) | (simp [*]; done) | (simp [go_sem, *]; done) | exact bfroz (bl_alloc (Below.refl _ _)) (by assumption) (by first | omega | (simp; done) | (simp; omega))) (by first | omega | (simp; done) | (simp; omega))
  go_wp2_with fail
  go_at_call 39
  refine (pr _).mono ?_
  rintro e w2 ⟨rfl, hb2⟩
  have s2 := hb2.size
  try simp at s2
  have l2_0 : w.heap.size < w2.heap.size := (by omega)
  have c2_1_0 : w2.cell? ⟨w.heap.size, 0, none⟩ = some (.float .f64 X1) := bkeep hb2 (by first | assumption | (simp [go_sem]; done) | (simp [*]; done) | (simp [go_sem, *]; done) | exact bkeep (bl_alloc (Below.refl _ _)) (by assumption) (by first | omega | (simp; done) | (simp; omega))) (by first | omega | (simp; done) | (simp; omega))
  have c2_2_1 : w2.cell? ⟨w.heap.size, 1, none⟩ = some (.float .f64 X2) := bkeep hb2 (by first | assumption | (simp [go_sem]; done) | (simp [*]; done) | (simp [go_sem, *]; done) | exact bkeep (bl_alloc (Below.refl _ _)) (by assumption) (by first | omega | (simp; done) | (simp; omega))) (by first | omega | (simp; done) | (simp; omega))
  have l2_3 : w.heap.size + 1 < w2.heap.size := (by omega)
  have c2_4_0 : w2.cell? ⟨w.heap.size + 1, 0, none⟩ = some (.float .f64 0) := bkeep hb2 (by first | assumption | (simp [go_sem]; done) | (simp [*]; done) | (simp [go_sem, *]; done) | exact bkeep (bl_alloc (Below.refl _ _)) (by assumption) (by first | omega | (simp; done) | (simp; omega))) (by first | omega | (simp; done) | (simp; omega))
  have f2_4_0 : w2.frozen? ⟨w.heap.size + 1, 0, none⟩ = false := bfroz hb2 (by first | assumption | (simp [go_sem]; done) | (simp [*]; done) | (simp [go_sem, *]; done) | exact bfroz (bl_alloc (Below.refl _ _)) (by assumption) (by first | omega | (simp; done) | (simp; omega))) (by first | omega | (simp; done) | (simp; omega))
  have c2_5_1 : w2.cell? ⟨w.heap.size + 1, 1, none⟩ = some (.float .f64 0) := bkeep hb2 (by first | assumption | (simp [go_sem]; done) | (simp [*]; done) | (simp [go_sem, *]; done) | exact bkeep (bl_alloc (Below.refl _ _)) (by assumption) (by first | omega | (simp; done) | (simp; omega))) (by first | omega | (simp; done) | (simp; omega))
  have f2_5_1 : w2.frozen? ⟨w.heap.size + 1, 1, none⟩ = false := bfroz hb2 (by first | assumption | (simp [go_sem]; done) | (simp [*]; done) | (simp [go_sem, *]; done) | exact bfroz (bl_alloc (Below.refl _ _)) (by assumption) (by first | omega | (simp; done) | (simp; omega))) (by first | omega | (simp; done) | (simp; omega))
  clear l1_0 c1_1_0 c1_2_1 l1_3 c1_4_0 f1_4_0 c1_5_1 f1_5_1
  go_wp2_with fail
  refine bodyPost_ret (v := .agg #[.float .f64 p1, .float .f64 p2]) (by simp [results, Try.results43, go_sem, *]) rfl ⟨rfl, ?_⟩
  repeat (first | exact Below.refl _ _ | assumption | refine Below.drew ?_ | refine bl_drewN ?_ _ | refine Below.setCell ?_ (by first | omega | (simp; done) | (simp; omega)) _ | refine Below.alloc ?_ (by first | omega | (simp; done) | (simp; omega)) _ | refine bl_next ?_ (by assumption) | refine bl_trans ?_ (by assumption) (by first | omega | (simp; done) | (simp; omega)))

theorem rsqr_neg_w (X1 X2 p1 p2 : Nat)
    (nx : ∀ w, Calls Try.prog 97 #[.agg #[.float .f64 X1, .float .f64 X2]] w fun e w' => e = .returned (.bool false) ∧ Below w.heap.size w w')
    (pr : ∀ w, Calls Try.prog 39 #[.agg #[.float .f64 X1, .float .f64 X2], .agg #[.float .f64 X1, .float .f64 X2]] w fun e w' => e = .returned (.agg #[.float .f64 p1, .float .f64 p2]) ∧ Below w.heap.size w w')
    (o1 : (Ieee.double.order X1 0 == some .lt || Ieee.double.order X1 0 == some .eq) = true)
    (o2 : (Ieee.double.order X2 0 == some .gt || Ieee.double.order X2 0 == some .eq) = false) (w : World) :
    Calls Try.prog 43 #[.agg #[.float .f64 X1, .float .f64 X2]] w fun e w' => e = .returned (.agg #[.float .f64 p1, .float .f64 p2]) ∧ Below w.heap.size w w' := by
  go_enter Try.func43, Try.ntmps43
  go_wp2_with fail
  go_at_call 97
  refine (nx _).mono ?_
  rintro e w1 ⟨rfl, hb1⟩
  have s1 := hb1.size
  try simp at s1
  have l1_0 : w.heap.size < w1.heap.size := (by omega)
  have c1_1_0 : w1.cell? ⟨w.heap.size, 0, none⟩ = some (.float .f64 X1) := bkeep hb1 (by first | assumption | (simp [go_sem]; done) | (simp [*]; done) | (simp [go_sem, *]; done) | exact bkeep (bl_alloc (Below.refl _ _)) (by assumption) (by first | omega | (simp; done) | (simp; omega))) (by first | omega | (simp; done) | (simp; omega))
  have c1_2_1 : w1.cell? ⟨w.heap.size, 1, none⟩ = some (.float .f64 X2) := bkeep hb1 (by first | assumption | (simp [go_sem]; done) | (simp [*]; done) | (simp [go_sem, *]; done) | exact bkeep (bl_alloc (Below.refl _ _)) (by assumption) (by first | omega | (simp; done) | (simp; omega))) (by first | omega | (simp; done) | (simp; omega))
  have l1_3 : w.heap.size + 1 < w1.heap.size := (by omega)
  have c1_4_0 : w1.cell? ⟨w.heap.size + 1, 0, none⟩ = some (.float .f64 0) := bkeep hb1 (by first | assumption | (simp [go_sem]; done) | (simp [*]; done) | (simp [go_sem, *]; done) | exact bkeep (bl_alloc (Below.refl _ _)) (by assumption) (by first | omega | (simp; done) | (simp; omega))) (by first | omega | (simp; done) | (simp; omega))
  have f1_4_0 : w1.frozen? ⟨w.heap.size + 1, 0, none⟩ = false := bfroz hb1 (by first | assumption | (simp [go_sem]; done) | (simp [*]; done) | (simp [go_sem, *]; done) | exact bfroz (bl_alloc (Below.refl _ _)) (by assumption) (by first | omega | (simp; done) | (simp; omega))) (by first | omega | (simp; done) | (simp; omega))
  have c1_5_1 : w1.cell? ⟨w.heap.size + 1, 1, none⟩ = some (.float .f64 0) := bkeep hb1 (by first | assumption | (simp [go_sem]; done) | (simp [*]; done) | (simp [go_sem, *]; done) | exact bkeep (bl_alloc (Below.refl _ _)) (by assumption) (by first | omega | (simp; done) | (simp; omega))) (by first | omega | (simp; done) | (simp; omega))
  have f1_5_1 : w1.frozen? ⟨w.heap.size + 1, 1, none⟩ = false := bfroz hb1 (by first | assumption | (simp [go_sem]; done) | (simp [*]; done) | (simp [go_sem, *]; done) | exact bfroz (bl_alloc (Below.refl _ _)) (by assumption) (by first | omega | (simp; done) | (simp; omega))) (by first | omega | (simp; done) | (simp; omega))
  go_wp2_with fail
  go_at_call 39
  refine (pr _).mono ?_
  rintro e w2 ⟨rfl, hb2⟩
  have s2 := hb2.size
  try simp at s2
  have l2_0 : w.heap.size < w2.heap.size := (by omega)
  have c2_1_0 : w2.cell? ⟨w.heap.size, 0, none⟩ = some (.float .f64 X1) := bkeep hb2 (by first | assumption | (simp [go_sem]; done) | (simp [*]; done) | (simp [go_sem, *]; done) | exact bkeep (bl_alloc (Below.refl _ _)) (by assumption) (by first | omega | (simp; done) | (simp; omega))) (by first | omega | (simp; done) | (simp; omega))
  have c2_2_1 : w2.cell? ⟨w.heap.size, 1, none⟩ = some (.float .f64 X2) := bkeep hb2 (by first | assumption | (simp [go_sem]; done) | (simp [*]; done) | (simp [go_sem, *]; done) | exact bkeep (bl_alloc (Below.refl _ _)) (by assumption) (by first | omega | (simp; done) | (simp; omega))) (by first | omega | (simp; done) | (simp; omega))
  have l2_3 : w.heap.size + 1 < w2.heap.size := (by omega)
  have c2_4_0 : w2.cell? ⟨w.heap.size + 1, 0, none⟩ = some (.float .f64 0) := bkeep hb2 (by first | assumption | (simp [go_sem]; done) | (simp [*]; done) | (simp [go_sem, *]; done) | exact bkeep (bl_alloc (Below.refl _ _)) (by assumption) (by first | omega | (simp; done) | (simp; omega))) (by first | omega | (simp; done) | (simp; omega))
  have f2_4_0 : w2.frozen? ⟨w.heap.size + 1, 0, none⟩ = false := bfroz hb2 (by first | assumption | (simp [go_sem]; done) | (simp [*]; done) | (simp [go_sem, *]; done) | exact bfroz (bl_alloc (Below.refl _ _)) (by assumption) (by first | omega | (simp; done) | (simp; omega))) (by first | omega | (simp; done) | (simp; omega))
  have c2_5_1 : w2.cell? ⟨w.heap.size + 1, 1, none⟩ = some (.float .f64 0) := bkeep hb2 (by first | assumption | (simp [go_sem]; done) | (simp [*]; done) | (simp [go_sem, *]; done) | exact bkeep (bl_alloc (Below.refl _ _)) (by assumption) (by first | omega | (simp; done) | (simp; omega))) (by first | omega | (simp; done) | (simp; omega))
  have f2_5_1 : w2.frozen? ⟨w.heap.size + 1, 1, none⟩ = false := bfroz hb2 (by first | assumption | (simp [go_sem]; done) | (simp [*]; done) | (simp [go_sem, *]; done) | exact bfroz (bl_alloc (Below.refl _ _)) (by assumption) (by first | omega | (simp; done) | (simp; omega))) (by first | omega | (simp; done) | (simp; omega))
  clear l1_0 c1_1_0 c1_2_1 l1_3 c1_4_0 f1_4_0 c1_5_1 f1_5_1
  go_wp2_with fail
  refine bodyPost_ret (v := .agg #[.float .f64 p1, .float .f64 p2]) (by simp [results, Try.results43, go_sem, *]) rfl ⟨rfl, ?_⟩
  repeat (first | exact Below.refl _ _ | assumption | refine Below.drew ?_ | refine bl_drewN ?_ _ | refine Below.setCell ?_ (by first | omega | (simp; done) | (simp; omega)) _ | refine Below.alloc ?_ (by first | omega | (simp; done) | (simp; omega)) _ | refine bl_next ?_ (by assumption) | refine bl_trans ?_ (by assumption) (by first | omega | (simp; done) | (simp; omega)))

theorem rsqr_amid_w (X1 X2 p1 p2 : Nat)
    (nx : ∀ w, Calls Try.prog 97 #[.agg #[.float .f64 X1, .float .f64 X2]] w fun e w' => e = .returned (.bool false) ∧ Below w.heap.size w w')
    (pr : ∀ w, Calls Try.prog 39 #[.agg #[.float .f64 X1, .float .f64 X2], .agg #[.float .f64 X1, .float .f64 X2]] w fun e w' => e = .returned (.agg #[.float .f64 p1, .float .f64 p2]) ∧ Below w.heap.size w w')
    (o1 : (Ieee.double.order X1 0 == some .lt || Ieee.double.order X1 0 == some .eq) = true)
    (o2 : (Ieee.double.order X2 0 == some .gt || Ieee.double.order X2 0 == some .eq) = true) (w : World) :
    Calls Try.prog 43 #[.agg #[.float .f64 X1, .float .f64 X2]] w fun e w' => e = .returned (.agg #[.float .f64 0, .float .f64 p2]) ∧ Below w.heap.size w w' := by
  go_enter Try.func43, Try.ntmps43
  go_wp2_with fail
  go_at_call 97
  refine (nx _).mono ?_
  rintro e w1 ⟨rfl, hb1⟩
  have s1 := hb1.size
  try simp at s1
  have l1_0 : w.heap.size < w1.heap.size := (by omega)
  have c1_1_0 : w1.cell? ⟨w.heap.size, 0, none⟩ = some (.float .f64 X1) := bkeep hb1 (by first | assumption | (simp [go_sem]; done) | (simp [*]; done) | (simp [go_sem, *]; done) | exact bkeep (bl_alloc (Below.refl _ _)) (by assumption) (by first | omega | (simp; done) | (simp; omega))) (by first | omega | (simp; done) | (simp; omega))
  have c1_2_1 : w1.cell? ⟨w.heap.size, 1, none⟩ = some (.float .f64 X2) := bkeep hb1 (by first | assumption | (simp [go_sem]; done) | (simp [*]; done) | (simp [go_sem, *]; done) | exact bkeep (bl_alloc (Below.refl _ _)) (by assumption) (by first | omega | (simp; done) | (simp; omega))) (by first | omega | (simp; done) | (simp; omega))
  have l1_3 : w.heap.size + 1 < w1.heap.size := (by omega)
  have c1_4_0 : w1.cell? ⟨w.heap.size + 1, 0, none⟩ = some (.float .f64 0) := bkeep hb1 (by first | assumption | (simp [go_sem]; done) | (simp [*]; done) | (simp [go_sem, *]; done) | exact bkeep (bl_alloc (Below.refl _ _)) (by assumption) (by first | omega | (simp; done) | (simp; omega))) (by first | omega | (simp; done) | (simp; omega))
  have f1_4_0 : w1.frozen? ⟨w.heap.size + 1, 0, none⟩ = false := bfroz hb1 (by first | assumption | (simp [go_sem]; done) | (simp [*]; done) | (simp [go_sem, *]; done) | exact bfroz (bl_alloc (Below.refl _ _)) (by assumption) (by first | omega | (simp; done) | (simp; omega))) (by first | omega | (simp; done) | (simp; omega))
  have c1_5_1 : w1.cell? ⟨w.heap.size + 1, 1, none⟩ = some (.float .f64 0) := bkeep hb1 (by first | assumption | (simp [go_sem]; done) | (simp [*]; done) | (simp [go_sem, *]; done) | exact bkeep (bl_alloc (Below.refl _ _)) (by assumption) (by first | omega | (simp; done) | (simp; omega))) (by first | omega | (simp; done) | (simp; omega))
  have f1_5_1 : w1.frozen? ⟨w.heap.size + 1, 1, none⟩ = false := bfroz hb1 (by first | assumption | (simp [go_sem]; done) | (simp [*]; done) | (simp [go_sem, *]; done) | exact bfroz (bl_alloc (Below.refl _ _)) (by assumption) (by first | omega | (simp; done) | (simp; omega))) (by first | omega | (simp; done) | (simp; omega))
  go_wp2_with fail
  go_at_call 39
  refine (pr _).mono ?_
  rintro e w2 ⟨rfl, hb2⟩
  have s2 := hb2.size
  try simp at s2
  have l2_0 : w.heap.size < w2.heap.size := (by omega)
  have c2_1_0 : w2.cell? ⟨w.heap.size, 0, none⟩ = some (.float .f64 X1) := bkeep hb2 (by first | assumption | (simp [go_sem]; done) | (simp [*]; done) | (simp [go_sem, *]; done) | exact bkeep (bl_alloc (Below.refl _ _)) (by assumption) (by first | omega | (simp; done) | (simp; omega))) (by first | omega | (simp; done) | (simp; omega))
  have c2_2_1 : w2.cell? ⟨w.heap.size, 1, none⟩ = some (.float .f64 X2) := bkeep hb2 (by first | assumption | (simp [go_sem]; done) | (simp [*]; done) | (simp [go_sem, *]; done) | exact bkeep (bl_alloc (Below.refl _ _)) (by assumption) (by first | omega | (simp; done) | (simp; omega))) (by first | omega | (simp; done) | (simp; omega))
  have l2_3 : w.heap.size + 1 < w2.heap.size := (by omega)
  have c2_4_0 : w2.cell? ⟨w.heap.size + 1, 0, none⟩ = some (.float .f64 0) := bkeep hb2 (by first | assumption | (simp [go_sem]; done) | (simp [*]; done) | (simp [go_sem, *]; done) | exact bkeep (bl_alloc (Below.refl _ _)) (by assumption) (by first | omega | (simp; done) | (simp; omega))) (by first | omega | (simp; done) | (simp; omega))
  have f2_4_0 : w2.frozen? ⟨w.heap.size + 1, 0, none⟩ = false := bfroz hb2 (by first | assumption | (simp [go_sem]; done) | (simp [*]; done) | (simp [go_sem, *]; done) | exact bfroz (bl_alloc (Below.refl _ _)) (by assumption) (by first | omega | (simp; done) | (simp; omega))) (by first | omega | (simp; done) | (simp; omega))
  have c2_5_1 : w2.cell? ⟨w.heap.size + 1, 1, none⟩ = some (.float .f64 0) := bkeep hb2 (by first | assumption | (simp [go_sem]; done) | (simp [*]; done) | (simp [go_sem, *]; done) | exact bkeep (bl_alloc (Below.refl _ _)) (by assumption) (by first | omega | (simp; done) | (simp; omega))) (by first | omega | (simp; done) | (simp; omega))
  have f2_5_1 : w2.frozen? ⟨w.heap.size + 1, 1, none⟩ = false := bfroz hb2 (by first | assumption | (simp [go_sem]; done) | (simp [*]; done) | (simp [go_sem, *]; done) | exact bfroz (bl_alloc (Below.refl _ _)) (by assumption) (by first | omega | (simp; done) | (simp; omega))) (by first | omega | (simp; done) | (simp; omega))
  clear l1_0 c1_1_0 c1_2_1 l1_3 c1_4_0 f1_4_0 c1_5_1 f1_5_1
  go_wp2_with fail
  refine bodyPost_ret (v := .agg #[.float .f64 0, .float .f64 p2]) (by simp [results, Try.results43, go_sem, *]) rfl ⟨rfl, ?_⟩
  repeat (first | exact Below.refl _ _ | assumption | refine Below.drew ?_ | refine bl_drewN ?_ _ | refine Below.setCell ?_ (by first | omega | (simp; done) | (simp; omega)) _ | refine Below.alloc ?_ (by first | omega | (simp; done) | (simp; omega)) _ | refine bl_next ?_ (by assumption) | refine bl_trans ?_ (by assumption) (by first | omega | (simp; done) | (simp; omega)))

set_option maxHeartbeats 2000000 in
theorem rroot_no_w (X1 X2 I a b e1 e2 : Nat)
    (i1 : ∀ w, Calls Try.prog 31 #[.int .i64 1] w fun e w' => e = .returned (.float .f64 I) ∧ Below w.heap.size w w')
    (bt : ∀ w, Calls Try.prog 47 #[.agg #[.float .f64 X1, .float .f64 X2], .agg #[.float .f64 0, .float .f64 I]] w fun e w' => e = .returned (.agg #[.float .f64 a, .float .f64 b]) ∧ Below w.heap.size w w')
    (nz : ∀ w, Calls Try.prog 97 #[.agg #[.float .f64 a, .float .f64 b]] w fun e w' => e = .returned (.bool true) ∧ Below w.heap.size w w')
    (em : ∀ w, Calls Try.prog 98 #[] w fun e w' => e = .returned (.agg #[.float .f64 e1, .float .f64 e2]) ∧ Below w.heap.size w w') (w : World) :
    Calls Try.prog 45 #[.agg #[.float .f64 X1, .float .f64 X2]] w fun e w' => e = .returned (.agg #[.float .f64 e1, .float .f64 e2]) ∧ Below w.heap.size w w' := by
  go_enter Try.func45, Try.ntmps45
  go_wp2_with fail
  have c0_0_0 : ((w.alloc (.cells #[.float .f64 X1, .float .f64 X2] 32)).alloc (.cells #[.float .f64 0, .float .f64 0] 32)).cell? ⟨w.heap.size, 0, none⟩ = some (.float .f64 X1) := by simp [go_sem]
  have c0_1_1 : ((w.alloc (.cells #[.float .f64 X1, .float .f64 X2] 32)).alloc (.cells #[.float .f64 0, .float .f64 0] 32)).cell? ⟨w.heap.size, 1, none⟩ = some (.float .f64 X2) := by simp [go_sem]
  have c0_2_0 : ((w.alloc (.cells #[.float .f64 X1, .float .f64 X2] 32)).alloc (.cells #[.float .f64 0, .float .f64 0] 32)).cell? ⟨w.heap.size + 1, 0, none⟩ = some (.float .f64 0) := by simp [go_sem]
  have f0_2_0 : ((w.alloc (.cells #[.float .f64 X1, .float .f64 X2] 32)).alloc (.cells #[.float .f64 0, .float .f64 0] 32)).frozen? ⟨w.heap.size + 1, 0, none⟩ = false := by simp [go_sem]
  have c0_3_1 : ((w.alloc (.cells #[.float .f64 X1, .float .f64 X2] 32)).alloc (.cells #[.float .f64 0, .float .f64 0] 32)).cell? ⟨w.heap.size + 1, 1, none⟩ = some (.float .f64 0) := by simp [go_sem]
  have f0_3_1 : ((w.alloc (.cells #[.float .f64 X1, .float .f64 X2] 32)).alloc (.cells #[.float .f64 0, .float .f64 0] 32)).frozen? ⟨w.heap.size + 1, 1, none⟩ = false := by simp [go_sem]
  have s0 : w.heap.size + 1 + 1 ≤ ((w.alloc (.cells #[.float .f64 X1, .float .f64 X2] 32)).alloc (.cells #[.float .f64 0, .float .f64 0] 32)).heap.size := by simp
  have hB0 : Below w.heap.size w ((w.alloc (.cells #[.float .f64 X1, .float .f64 X2] 32)).alloc (.cells #[.float .f64 0, .float .f64 0] 32)) := by
    repeat (first | exact Below.refl _ _ | assumption | refine Below.drew ?_ | refine bl_drewN ?_ _ | refine Below.setCell ?_ (by first | omega | (simp; done) | (simp; omega)) _ | refine Below.alloc ?_ (by first | omega | (simp; done) | (simp; omega)) _ | refine bl_next ?_ (by assumption) | refine bl_trans ?_ (by assumption) (by first | omega | (simp; done) | (simp; omega)))
  generalize ((w.alloc (.cells #[.float .f64 X1, .float .f64 X2] 32)).alloc (.cells #[.float .f64 0, .float .f64 0] 32)) = w0 at *
  go_cut [3] (fun s5 wx => ∃ bk : Nat, s5 = .pointer (some ⟨bk, 0, none⟩) ∧ wx.cell? ⟨bk, 0, none⟩ = some (.float .f64 a) ∧ wx.cell? ⟨bk, 1, none⟩ = some (.float .f64 b) ∧ w0.heap.size ≤ bk ∧ Below w0.heap.size w0 wx)
  case first =>
    go_region_held3 (fun w' => w'.cell? ⟨w.heap.size, 0, none⟩ = some (.float .f64 X1) ∧ w'.cell? ⟨w.heap.size, 1, none⟩ = some (.float .f64 X2)) (((try dsimp only); (repeat' apply And.intro) <;> first | exact bkeep (W := w0) (n := w0.heap.size) (by repeat (first | exact Below.refl _ _ | assumption | refine Below.drew ?_ | refine bl_drewN ?_ _ | refine bl_alloc ?_ | refine bl_next ?_ (by assumption) | refine bl_set ?_ (by first | omega | (simp; done) | (simp; omega) | exact Below.size (B := w0.heap.size) (by repeat (first | exact Below.refl _ _ | assumption | refine Below.drew ?_ | refine bl_drewN ?_ _ | refine bl_alloc ?_ | refine bl_next ?_ (by assumption) | refine bl_set ?_ (by first | omega | (simp; done) | (simp; omega))))))) (by assumption) (by first | omega | (simp; done) | (simp; omega)))) (first | (go_at_call 31; with_reducible refine (i1 _).mono ?_; rintro e w' ⟨rfl, hb⟩; (try have z := bnew hb); (try have z := bnewD hb); (try have z := bold hb z); (try simp only [World.size_drew] at z)) | (go_at_call 47; with_reducible refine (bt _).mono ?_; rintro e w' ⟨rfl, hb⟩; (try have z := bnew hb); (try have z := bnewD hb); (try have z := bold hb z); (try simp only [World.size_drew] at z)))
    all_goals (go_wp2_with fail; go_meet; (case rel => exact ⟨_, rfl, (by first | (simp [go_sem]; done) | (simp [*]; done) | simp [go_sem, *]), (by first | (simp [go_sem]; done) | (simp [*]; done) | simp [go_sem, *]), (by first | omega | (simp; done) | exact Below.size (B := w0.heap.size) (by repeat (first | exact Below.refl _ _ | assumption | refine Below.drew ?_ | refine bl_drewN ?_ _ | refine bl_alloc ?_ | refine bl_next ?_ (by assumption) | refine bl_set ?_ (by first | omega | (simp; done) | (simp; omega))))), (by repeat (first | exact Below.refl _ _ | assumption | refine Below.drew ?_ | refine bl_drewN ?_ _ | refine bl_alloc ?_ | refine bl_next ?_ (by assumption) | refine bl_set ?_ (by first | omega | (simp; done) | (simp; omega) | exact Below.size (B := w0.heap.size) (by repeat (first | exact Below.refl _ _ | assumption | refine Below.drew ?_ | refine bl_drewN ?_ _ | refine bl_alloc ?_ | refine bl_next ?_ (by assumption) | refine bl_set ?_ (by first | omega | (simp; done) | (simp; omega)))))))⟩))
  case rest =>
    obtain ⟨m3, rfl, k1, k2, le3, hb1⟩ := hcut
    obtain ⟨w1, rfl⟩ : ∃ v, v = wc := ⟨wc, rfl⟩
    have s1 := hb1.size
    have : w1.cell? ⟨w.heap.size, 0, none⟩ = some (.float .f64 X1) := bkeep hb1 (by assumption) (by first | omega | (simp; done) | (simp; omega))
    have : w1.cell? ⟨w.heap.size, 1, none⟩ = some (.float .f64 X2) := bkeep hb1 (by assumption) (by first | omega | (simp; done) | (simp; omega))
    have : w1.cell? ⟨w.heap.size + 1, 0, none⟩ = some (.float .f64 0) := bkeep hb1 (by assumption) (by first | omega | (simp; done) | (simp; omega))
    have : w1.frozen? ⟨w.heap.size + 1, 0, none⟩ = false := bfroz hb1 (by assumption) (by first | omega | (simp; done) | (simp; omega))
    have : w1.cell? ⟨w.heap.size + 1, 1, none⟩ = some (.float .f64 0) := bkeep hb1 (by assumption) (by first | omega | (simp; done) | (simp; omega))
    have : w1.frozen? ⟨w.heap.size + 1, 1, none⟩ = false := bfroz hb1 (by assumption) (by first | omega | (simp; done) | (simp; omega))
    have lm : m3 < w1.heap.size := cell_lt k1
    go_wp2_with fail
    go_at_call 97
    refine (nz _).mono ?_
    rintro e w2 ⟨rfl, hb2⟩
    have s2 := hb2.size
    try simp at s2
    have l2_0 : w.heap.size + 1 < w2.heap.size := (by omega)
    have c2_1_0 : w2.cell? ⟨w.heap.size + 1, 0, none⟩ = some (.float .f64 0) := bkeep hb2 (by first | assumption | (simp [go_sem]; done) | (simp [*]; done) | (simp [go_sem, *]; done) | exact bkeep (bl_alloc (Below.refl _ _)) (by assumption) (by first | omega | (simp; done) | (simp; omega))) (by first | omega | (simp; done) | (simp; omega))
    have f2_1_0 : w2.frozen? ⟨w.heap.size + 1, 0, none⟩ = false := bfroz hb2 (by first | assumption | (simp [go_sem]; done) | (simp [*]; done) | (simp [go_sem, *]; done) | exact bfroz (bl_alloc (Below.refl _ _)) (by assumption) (by first | omega | (simp; done) | (simp; omega))) (by first | omega | (simp; done) | (simp; omega))
    have c2_2_1 : w2.cell? ⟨w.heap.size + 1, 1, none⟩ = some (.float .f64 0) := bkeep hb2 (by first | assumption | (simp [go_sem]; done) | (simp [*]; done) | (simp [go_sem, *]; done) | exact bkeep (bl_alloc (Below.refl _ _)) (by assumption) (by first | omega | (simp; done) | (simp; omega))) (by first | omega | (simp; done) | (simp; omega))
    have f2_2_1 : w2.frozen? ⟨w.heap.size + 1, 1, none⟩ = false := bfroz hb2 (by first | assumption | (simp [go_sem]; done) | (simp [*]; done) | (simp [go_sem, *]; done) | exact bfroz (bl_alloc (Below.refl _ _)) (by assumption) (by first | omega | (simp; done) | (simp; omega))) (by first | omega | (simp; done) | (simp; omega))
    have l2_3 : m3 < w2.heap.size := (by omega)
    have c2_4_0 : w2.cell? ⟨m3, 0, none⟩ = some (.float .f64 a) := bkeep hb2 (by first | assumption | (simp [go_sem]; done) | (simp [*]; done) | (simp [go_sem, *]; done) | exact bkeep (bl_alloc (Below.refl _ _)) (by assumption) (by first | omega | (simp; done) | (simp; omega))) (by first | omega | (simp; done) | (simp; omega))
    have c2_5_1 : w2.cell? ⟨m3, 1, none⟩ = some (.float .f64 b) := bkeep hb2 (by first | assumption | (simp [go_sem]; done) | (simp [*]; done) | (simp [go_sem, *]; done) | exact bkeep (bl_alloc (Below.refl _ _)) (by assumption) (by first | omega | (simp; done) | (simp; omega))) (by first | omega | (simp; done) | (simp; omega))
    go_wp2_with fail
    go_at_call 98
    refine (em _).mono ?_
    rintro e w3 ⟨rfl, hb3⟩
    have s3 := hb3.size
    try simp at s3
    have l3_0 : w.heap.size + 1 < w3.heap.size := (by omega)
    have c3_1_0 : w3.cell? ⟨w.heap.size + 1, 0, none⟩ = some (.float .f64 0) := bkeep hb3 (by first | assumption | (simp [go_sem]; done) | (simp [*]; done) | (simp [go_sem, *]; done) | exact bkeep (bl_alloc (Below.refl _ _)) (by assumption) (by first | omega | (simp; done) | (simp; omega))) (by first | omega | (simp; done) | (simp; omega))
    have f3_1_0 : w3.frozen? ⟨w.heap.size + 1, 0, none⟩ = false := bfroz hb3 (by first | assumption | (simp [go_sem]; done) | (simp [*]; done) | (simp [go_sem, *]; done) | exact bfroz (bl_alloc (Below.refl _ _)) (by assumption) (by first | omega | (simp; done) | (simp; omega))) (by first | omega | (simp; done) | (simp; omega))
    have c3_2_1 : w3.cell? ⟨w.heap.size + 1, 1, none⟩ = some (.float .f64 0) := bkeep hb3 (by first | assumption | (simp [go_sem]; done) | (simp [*]; done) | (simp [go_sem, *]; done) | exact bkeep (bl_alloc (Below.refl _ _)) (by assumption) (by first | omega | (simp; done) | (simp; omega))) (by first | omega | (simp; done) | (simp; omega))
    have f3_2_1 : w3.frozen? ⟨w.heap.size + 1, 1, none⟩ = false := bfroz hb3 (by first | assumption | (simp [go_sem]; done) | (simp [*]; done) | (simp [go_sem, *]; done) | exact bfroz (bl_alloc (Below.refl _ _)) (by assumption) (by first | omega | (simp; done) | (simp; omega))) (by first | omega | (simp; done) | (simp; omega))
    have l3_3 : m3 < w3.heap.size := (by omega)
    have c3_4_0 : w3.cell? ⟨m3, 0, none⟩ = some (.float .f64 a) := bkeep hb3 (by first | assumption | (simp [go_sem]; done) | (simp [*]; done) | (simp [go_sem, *]; done) | exact bkeep (bl_alloc (Below.refl _ _)) (by assumption) (by first | omega | (simp; done) | (simp; omega))) (by first | omega | (simp; done) | (simp; omega))
    have c3_5_1 : w3.cell? ⟨m3, 1, none⟩ = some (.float .f64 b) := bkeep hb3 (by first | assumption | (simp [go_sem]; done) | (simp [*]; done) | (simp [go_sem, *]; done) | exact bkeep (bl_alloc (Below.refl _ _)) (by assumption) (by first | omega | (simp; done) | (simp; omega))) (by first | omega | (simp; done) | (simp; omega))
    clear l2_0 c2_1_0 f2_1_0 c2_2_1 f2_2_1 l2_3 c2_4_0 c2_5_1
    go_wp2_with fail
    refine bodyPost_ret (v := .agg #[.float .f64 e1, .float .f64 e2]) (by simp [results, Try.results45, go_sem, *]) rfl ⟨rfl, ?_⟩
    repeat (first | exact Below.refl _ _ | assumption | refine Below.drew ?_ | refine bl_drewN ?_ _ | refine Below.setCell ?_ (by first | omega | (simp; done) | (simp; omega)) _ | refine Below.alloc ?_ (by first | omega | (simp; done) | (simp; omega)) _ | refine bl_next ?_ (by assumption) | refine bl_trans ?_ (by assumption) (by first | omega | (simp; done) | (simp; omega)))

set_option maxHeartbeats 2000000 in
theorem rroot_ok_w (X1 X2 I a b d u c q : Nat)
    (i1 : ∀ w, Calls Try.prog 31 #[.int .i64 1] w fun e w' => e = .returned (.float .f64 I) ∧ Below w.heap.size w w')
    (bt : ∀ w, Calls Try.prog 47 #[.agg #[.float .f64 X1, .float .f64 X2], .agg #[.float .f64 0, .float .f64 I]] w fun e w' => e = .returned (.agg #[.float .f64 a, .float .f64 b]) ∧ Below w.heap.size w w')
    (nz : ∀ w, Calls Try.prog 97 #[.agg #[.float .f64 a, .float .f64 b]] w fun e w' => e = .returned (.bool false) ∧ Below w.heap.size w w')
    (q1 : ∀ w, Calls Try.prog 26 #[.float .f64 a, .bool true] w fun e w' => e = .returned (.float .f64 d) ∧ Below w.heap.size w w')
    (q2 : ∀ w, Calls Try.prog 26 #[.float .f64 b, .bool false] w fun e w' => e = .returned (.float .f64 u) ∧ Below w.heap.size w w')
    (p : ∀ w, Calls Try.prog 99 #[.float .f64 d, .float .f64 u] w fun e w' => e = .returned (.agg #[.float .f64 c, .float .f64 q]) ∧ Below w.heap.size w w') (w : World) :
    Calls Try.prog 45 #[.agg #[.float .f64 X1, .float .f64 X2]] w fun e w' => e = .returned (.agg #[.float .f64 c, .float .f64 q]) ∧ Below w.heap.size w w' := by
  go_enter Try.func45, Try.ntmps45
  go_wp2_with fail
  have c0_0_0 : ((w.alloc (.cells #[.float .f64 X1, .float .f64 X2] 32)).alloc (.cells #[.float .f64 0, .float .f64 0] 32)).cell? ⟨w.heap.size, 0, none⟩ = some (.float .f64 X1) := by simp [go_sem]
  have c0_1_1 : ((w.alloc (.cells #[.float .f64 X1, .float .f64 X2] 32)).alloc (.cells #[.float .f64 0, .float .f64 0] 32)).cell? ⟨w.heap.size, 1, none⟩ = some (.float .f64 X2) := by simp [go_sem]
  have c0_2_0 : ((w.alloc (.cells #[.float .f64 X1, .float .f64 X2] 32)).alloc (.cells #[.float .f64 0, .float .f64 0] 32)).cell? ⟨w.heap.size + 1, 0, none⟩ = some (.float .f64 0) := by simp [go_sem]
  have f0_2_0 : ((w.alloc (.cells #[.float .f64 X1, .float .f64 X2] 32)).alloc (.cells #[.float .f64 0, .float .f64 0] 32)).frozen? ⟨w.heap.size + 1, 0, none⟩ = false := by simp [go_sem]
  have c0_3_1 : ((w.alloc (.cells #[.float .f64 X1, .float .f64 X2] 32)).alloc (.cells #[.float .f64 0, .float .f64 0] 32)).cell? ⟨w.heap.size + 1, 1, none⟩ = some (.float .f64 0) := by simp [go_sem]
  have f0_3_1 : ((w.alloc (.cells #[.float .f64 X1, .float .f64 X2] 32)).alloc (.cells #[.float .f64 0, .float .f64 0] 32)).frozen? ⟨w.heap.size + 1, 1, none⟩ = false := by simp [go_sem]
  have s0 : w.heap.size + 1 + 1 ≤ ((w.alloc (.cells #[.float .f64 X1, .float .f64 X2] 32)).alloc (.cells #[.float .f64 0, .float .f64 0] 32)).heap.size := by simp
  have hB0 : Below w.heap.size w ((w.alloc (.cells #[.float .f64 X1, .float .f64 X2] 32)).alloc (.cells #[.float .f64 0, .float .f64 0] 32)) := by
    repeat (first | exact Below.refl _ _ | assumption | refine Below.drew ?_ | refine bl_drewN ?_ _ | refine Below.setCell ?_ (by first | omega | (simp; done) | (simp; omega)) _ | refine Below.alloc ?_ (by first | omega | (simp; done) | (simp; omega)) _ | refine bl_next ?_ (by assumption) | refine bl_trans ?_ (by assumption) (by first | omega | (simp; done) | (simp; omega)))
  generalize ((w.alloc (.cells #[.float .f64 X1, .float .f64 X2] 32)).alloc (.cells #[.float .f64 0, .float .f64 0] 32)) = w0 at *
  go_cut [3] (fun s5 wx => ∃ bk : Nat, s5 = .pointer (some ⟨bk, 0, none⟩) ∧ wx.cell? ⟨bk, 0, none⟩ = some (.float .f64 a) ∧ wx.cell? ⟨bk, 1, none⟩ = some (.float .f64 b) ∧ w0.heap.size ≤ bk ∧ Below w0.heap.size w0 wx)
  case first =>
    go_region_held3 (fun w' => w'.cell? ⟨w.heap.size, 0, none⟩ = some (.float .f64 X1) ∧ w'.cell? ⟨w.heap.size, 1, none⟩ = some (.float .f64 X2)) (((try dsimp only); (repeat' apply And.intro) <;> first | exact bkeep (W := w0) (n := w0.heap.size) (by repeat (first | exact Below.refl _ _ | assumption | refine Below.drew ?_ | refine bl_drewN ?_ _ | refine bl_alloc ?_ | refine bl_next ?_ (by assumption) | refine bl_set ?_ (by first | omega | (simp; done) | (simp; omega) | exact Below.size (B := w0.heap.size) (by repeat (first | exact Below.refl _ _ | assumption | refine Below.drew ?_ | refine bl_drewN ?_ _ | refine bl_alloc ?_ | refine bl_next ?_ (by assumption) | refine bl_set ?_ (by first | omega | (simp; done) | (simp; omega))))))) (by assumption) (by first | omega | (simp; done) | (simp; omega)))) (first | (go_at_call 31; with_reducible refine (i1 _).mono ?_; rintro e w' ⟨rfl, hb⟩; (try have z := bnew hb); (try have z := bnewD hb); (try have z := bold hb z); (try simp only [World.size_drew] at z)) | (go_at_call 47; with_reducible refine (bt _).mono ?_; rintro e w' ⟨rfl, hb⟩; (try have z := bnew hb); (try have z := bnewD hb); (try have z := bold hb z); (try simp only [World.size_drew] at z)))
    all_goals (go_wp2_with fail; go_meet; (case rel => exact ⟨_, rfl, (by first | (simp [go_sem]; done) | (simp [*]; done) | simp [go_sem, *]), (by first | (simp [go_sem]; done) | (simp [*]; done) | simp [go_sem, *]), (by first | omega | (simp; done) | exact Below.size (B := w0.heap.size) (by repeat (first | exact Below.refl _ _ | assumption | refine Below.drew ?_ | refine bl_drewN ?_ _ | refine bl_alloc ?_ | refine bl_next ?_ (by assumption) | refine bl_set ?_ (by first | omega | (simp; done) | (simp; omega))))), (by repeat (first | exact Below.refl _ _ | assumption | refine Below.drew ?_ | refine bl_drewN ?_ _ | refine bl_alloc ?_ | refine bl_next ?_ (by assumption) | refine bl_set ?_ (by first | omega | (simp; done) | (simp; omega) | exact Below.size (B := w0.heap.size) (by repeat (first | exact Below.refl _ _ | assumption | refine Below.drew ?_ | refine bl_drewN ?_ _ | refine bl_alloc ?_ | refine bl_next ?_ (by assumption) | refine bl_set ?_ (by first | omega | (simp; done) | (simp; omega)))))))⟩))
  case rest =>
    obtain ⟨m3, rfl, k1, k2, le3, hb1⟩ := hcut
    obtain ⟨w1, rfl⟩ : ∃ v, v = wc := ⟨wc, rfl⟩
    have s1 := hb1.size
    have : w1.cell? ⟨w.heap.size, 0, none⟩ = some (.float .f64 X1) := bkeep hb1 (by assumption) (by first | omega | (simp; done) | (simp; omega))
    have : w1.cell? ⟨w.heap.size, 1, none⟩ = some (.float .f64 X2) := bkeep hb1 (by assumption) (by first | omega | (simp; done) | (simp; omega))
    have : w1.cell? ⟨w.heap.size + 1, 0, none⟩ = some (.float .f64 0) := bkeep hb1 (by assumption) (by first | omega | (simp; done) | (simp; omega))
    have : w1.frozen? ⟨w.heap.size + 1, 0, none⟩ = false := bfroz hb1 (by assumption) (by first | omega | (simp; done) | (simp; omega))
    have : w1.cell? ⟨w.heap.size + 1, 1, none⟩ = some (.float .f64 0) := bkeep hb1 (by assumption) (by first | omega | (simp; done) | (simp; omega))
    have : w1.frozen? ⟨w.heap.size + 1, 1, none⟩ = false := bfroz hb1 (by assumption) (by first | omega | (simp; done) | (simp; omega))
    have lm : m3 < w1.heap.size := cell_lt k1
    go_wp2_with fail
    go_at_call 97
    refine (nz _).mono ?_
    rintro e w2 ⟨rfl, hb2⟩
    have s2 := hb2.size
    try simp at s2
    have l2_0 : w.heap.size + 1 < w2.heap.size := (by omega)
    have c2_1_0 : w2.cell? ⟨w.heap.size + 1, 0, none⟩ = some (.float .f64 0) := bkeep hb2 (by first | assumption | (simp [go_sem]; done) | (simp [*]; done) | (simp [go_sem, *]; done) | exact bkeep (bl_alloc (Below.refl _ _)) (by assumption) (by first | omega | (simp; done) | (simp; omega))) (by first | omega | (simp; done) | (simp; omega))
    have f2_1_0 : w2.frozen? ⟨w.heap.size + 1, 0, none⟩ = false := bfroz hb2 (by first | assumption | (simp [go_sem]; done) | (simp [*]; done) | (simp [go_sem, *]; done) | exact bfroz (bl_alloc (Below.refl _ _)) (by assumption) (by first | omega | (simp; done) | (simp; omega))) (by first | omega | (simp; done) | (simp; omega))
    have c2_2_1 : w2.cell? ⟨w.heap.size + 1, 1, none⟩ = some (.float .f64 0) := bkeep hb2 (by first | assumption | (simp [go_sem]; done) | (simp [*]; done) | (simp [go_sem, *]; done) | exact bkeep (bl_alloc (Below.refl _ _)) (by assumption) (by first | omega | (simp; done) | (simp; omega))) (by first | omega | (simp; done) | (simp; omega))
    have f2_2_1 : w2.frozen? ⟨w.heap.size + 1, 1, none⟩ = false := bfroz hb2 (by first | assumption | (simp [go_sem]; done) | (simp [*]; done) | (simp [go_sem, *]; done) | exact bfroz (bl_alloc (Below.refl _ _)) (by assumption) (by first | omega | (simp; done) | (simp; omega))) (by first | omega | (simp; done) | (simp; omega))
    have l2_3 : m3 < w2.heap.size := (by omega)
    have c2_4_0 : w2.cell? ⟨m3, 0, none⟩ = some (.float .f64 a) := bkeep hb2 (by first | assumption | (simp [go_sem]; done) | (simp [*]; done) | (simp [go_sem, *]; done) | exact bkeep (bl_alloc (Below.refl _ _)) (by assumption) (by first | omega | (simp; done) | (simp; omega))) (by first | omega | (simp; done) | (simp; omega))
    have c2_5_1 : w2.cell? ⟨m3, 1, none⟩ = some (.float .f64 b) := bkeep hb2 (by first | assumption | (simp [go_sem]; done) | (simp [*]; done) | (simp [go_sem, *]; done) | exact bkeep (bl_alloc (Below.refl _ _)) (by assumption) (by first | omega | (simp; done) | (simp; omega))) (by first | omega | (simp; done) | (simp; omega))
    go_wp2_with fail
    go_at_call 26
    refine (q1 _).mono ?_
    rintro e w3 ⟨rfl, hb3⟩
    have s3 := hb3.size
    try simp at s3
    have l3_0 : w.heap.size + 1 < w3.heap.size := (by omega)
    have c3_1_0 : w3.cell? ⟨w.heap.size + 1, 0, none⟩ = some (.float .f64 0) := bkeep hb3 (by first | assumption | (simp [go_sem]; done) | (simp [*]; done) | (simp [go_sem, *]; done) | exact bkeep (bl_alloc (Below.refl _ _)) (by assumption) (by first | omega | (simp; done) | (simp; omega))) (by first | omega | (simp; done) | (simp; omega))
    have f3_1_0 : w3.frozen? ⟨w.heap.size + 1, 0, none⟩ = false := bfroz hb3 (by first | assumption | (simp [go_sem]; done) | (simp [*]; done) | (simp [go_sem, *]; done) | exact bfroz (bl_alloc (Below.refl _ _)) (by assumption) (by first | omega | (simp; done) | (simp; omega))) (by first | omega | (simp; done) | (simp; omega))
    have c3_2_1 : w3.cell? ⟨w.heap.size + 1, 1, none⟩ = some (.float .f64 0) := bkeep hb3 (by first | assumption | (simp [go_sem]; done) | (simp [*]; done) | (simp [go_sem, *]; done) | exact bkeep (bl_alloc (Below.refl _ _)) (by assumption) (by first | omega | (simp; done) | (simp; omega))) (by first | omega | (simp; done) | (simp; omega))
    have f3_2_1 : w3.frozen? ⟨w.heap.size + 1, 1, none⟩ = false := bfroz hb3 (by first | assumption | (simp [go_sem]; done) | (simp [*]; done) | (simp [go_sem, *]; done) | exact bfroz (bl_alloc (Below.refl _ _)) (by assumption) (by first | omega | (simp; done) | (simp; omega))) (by first | omega | (simp; done) | (simp; omega))
    have l3_3 : m3 < w3.heap.size := (by omega)
    have c3_4_0 : w3.cell? ⟨m3, 0, none⟩ = some (.float .f64 a) := bkeep hb3 (by first | assumption | (simp [go_sem]; done) | (simp [*]; done) | (simp [go_sem, *]; done) | exact bkeep (bl_alloc (Below.refl _ _)) (by assumption) (by first | omega | (simp; done) | (simp; omega))) (by first | omega | (simp; done) | (simp; omega))
    have c3_5_1 : w3.cell? ⟨m3, 1, none⟩ = some (.float .f64 b) := bkeep hb3 (by first | assumption | (simp [go_sem]; done) | (simp [*]; done) | (simp [go_sem, *]; done) | exact bkeep (bl_alloc (Below.refl _ _)) (by assumption) (by first | omega | (simp; done) | (simp; omega))) (by first | omega | (simp; done) | (simp; omega))
    clear l2_0 c2_1_0 f2_1_0 c2_2_1 f2_2_1 l2_3 c2_4_0 c2_5_1
    go_wp2_with fail
    go_at_call 26
    refine (q2 _).mono ?_
    rintro e w4 ⟨rfl, hb4⟩
    have s4 := hb4.size
    try simp at s4
    have l4_0 : w.heap.size + 1 < w4.heap.size := (by omega)
    have c4_1_0 : w4.cell? ⟨w.heap.size + 1, 0, none⟩ = some (.float .f64 0) := bkeep hb4 (by first | assumption | (simp [go_sem]; done) | (simp [*]; done) | (simp [go_sem, *]; done) | exact bkeep (bl_alloc (Below.refl _ _)) (by assumption) (by first | omega | (simp; done) | (simp; omega))) (by first | omega | (simp; done) | (simp; omega))
    have f4_1_0 : w4.frozen? ⟨w.heap.size + 1, 0, none⟩ = false := bfroz hb4 (by first | assumption | (simp [go_sem]; done) | (simp [*]; done) | (simp [go_sem, *]; done) | exact bfroz (bl_alloc (Below.refl _ _)) (by assumption) (by first | omega | (simp; done) | (simp; omega))) (by first | omega | (simp; done) | (simp; omega))
    have c4_2_1 : w4.cell? ⟨w.heap.size + 1, 1, none⟩ = some (.float .f64 0) := bkeep hb4 (by first | assumption | (simp [go_sem]; done) | (simp [*]; done) | (simp [go_sem, *]; done) | exact bkeep (bl_alloc (Below.refl _ _)) (by assumption) (by first | omega | (simp; done) | (simp; omega))) (by first | omega | (simp; done) | (simp; omega))
    have f4_2_1 : w4.frozen? ⟨w.heap.size + 1, 1, none⟩ = false := bfroz hb4 (by first | assumption | (simp [go_sem]; done) | (simp [*]; done) | (simp [go_sem, *]; done) | exact bfroz (bl_alloc (Below.refl _ _)) (by assumption) (by first | omega | (simp; done) | (simp; omega))) (by first | omega | (simp; done) | (simp; omega))
    have l4_3 : m3 < w4.heap.size := (by omega)
    have c4_4_0 : w4.cell? ⟨m3, 0, none⟩ = some (.float .f64 a) := bkeep hb4 (by first | assumption | (simp [go_sem]; done) | (simp [*]; done) | (simp [go_sem, *]; done) | exact bkeep (bl_alloc (Below.refl _ _)) (by assumption) (by first | omega | (simp; done) | (simp; omega))) (by first | omega | (simp; done) | (simp; omega))
    have c4_5_1 : w4.cell? ⟨m3, 1, none⟩ = some (.float .f64 b) := bkeep hb4 (by first | assumption | (simp [go_sem]; done) | (simp [*]; done) | (simp [go_sem, *]; done) | exact bkeep (bl_alloc (Below.refl _ _)) (by assumption) (by first | omega | (simp; done) | (simp; omega))) (by first | omega | (simp; done) | (simp; omega))
    clear l3_0 c3_1_0 f3_1_0 c3_2_1 f3_2_1 l3_3 c3_4_0 c3_5_1
    go_wp2_with fail
    go_at_call 99
    refine (p _).mono ?_
    rintro e w5 ⟨rfl, hb5⟩
    have s5 := hb5.size
    try simp at s5
    have l5_0 : w.heap.size + 1 < w5.heap.size := (by omega)
    have c5_1_0 : w5.cell? ⟨w.heap.size + 1, 0, none⟩ = some (.float .f64 0) := bkeep hb5 (by first | assumption | (simp [go_sem]; done) | (simp [*]; done) | (simp [go_sem, *]; done) | exact bkeep (bl_alloc (Below.refl _ _)) (by assumption) (by first | omega | (simp; done) | (simp; omega))) (by first | omega | (simp; done) | (simp; omega))
    have f5_1_0 : w5.frozen? ⟨w.heap.size + 1, 0, none⟩ = false := bfroz hb5 (by first | assumption | (simp [go_sem]; done) | (simp [*]; done) | (simp [go_sem, *]; done) | exact bfroz (bl_alloc (Below.refl _ _)) (by assumption) (by first | omega | (simp; done) | (simp; omega))) (by first | omega | (simp; done) | (simp; omega))
    have c5_2_1 : w5.cell? ⟨w.heap.size + 1, 1, none⟩ = some (.float .f64 0) := bkeep hb5 (by first | assumption | (simp [go_sem]; done) | (simp [*]; done) | (simp [go_sem, *]; done) | exact bkeep (bl_alloc (Below.refl _ _)) (by assumption) (by first | omega | (simp; done) | (simp; omega))) (by first | omega | (simp; done) | (simp; omega))
    have f5_2_1 : w5.frozen? ⟨w.heap.size + 1, 1, none⟩ = false := bfroz hb5 (by first | assumption | (simp [go_sem]; done) | (simp [*]; done) | (simp [go_sem, *]; done) | exact bfroz (bl_alloc (Below.refl _ _)) (by assumption) (by first | omega | (simp; done) | (simp; omega))) (by first | omega | (simp; done) | (simp; omega))
    have l5_3 : m3 < w5.heap.size := (by omega)
    have c5_4_0 : w5.cell? ⟨m3, 0, none⟩ = some (.float .f64 a) := bkeep hb5 (by first | assumption | (simp [go_sem]; done) | (simp [*]; done) | (simp [go_sem, *]; done) | exact bkeep (bl_alloc (Below.refl _ _)) (by assumption) (by first | omega | (simp; done) | (simp; omega))) (by first | omega | (simp; done) | (simp; omega))
    have c5_5_1 : w5.cell? ⟨m3, 1, none⟩ = some (.float .f64 b) := bkeep hb5 (by first | assumption | (simp [go_sem]; done) | (simp [*]; done) | (simp [go_sem, *]; done) | exact bkeep (bl_alloc (Below.refl _ _)) (by assumption) (by first | omega | (simp; done) | (simp; omega))) (by first | omega | (simp; done) | (simp; omega))
    clear l4_0 c4_1_0 f4_1_0 c4_2_1 f4_2_1 l4_3 c4_4_0 c4_5_1
    go_wp2_with fail
    refine bodyPost_ret (v := .agg #[.float .f64 c, .float .f64 q]) (by simp [results, Try.results45, go_sem, *]) rfl ⟨rfl, ?_⟩
    repeat (first | exact Below.refl _ _ | assumption | refine Below.drew ?_ | refine bl_drewN ?_ _ | refine Below.setCell ?_ (by first | omega | (simp; done) | (simp; omega)) _ | refine Below.alloc ?_ (by first | omega | (simp; done) | (simp; omega)) _ | refine bl_next ?_ (by assumption) | refine bl_trans ?_ (by assumption) (by first | omega | (simp; done) | (simp; omega)))

end Go.Proofs.Ytacnclofbnafiaa
