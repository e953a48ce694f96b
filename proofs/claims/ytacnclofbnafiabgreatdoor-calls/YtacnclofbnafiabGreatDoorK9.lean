import Derived.Test.YtacnclofbnafiabGreatDoorK5
import Derived.Deep.DeepCutAuto
namespace Go.Proofs.YtacnclofbnafiabGreatDoor
open Go.RowKit Fl

theorem rnone0_w (X1 X2 : Nat)
    (h1 : (Ieee.double.order X1 X1 != some .eq) = true) (w : World) :
    Calls Tryz.prog 105 #[.agg #[.float .f64 X1, .float .f64 X2]] w fun e w' => e = .returned (.bool true) ∧ Below w.heap.size w w' := by
  go_enter Tryz.func105, Tryz.ntmps105
  go_wp2_with fail
  go_ret
  exact ⟨rfl, (Below.refl _ _).alloc (Nat.le_refl _) _⟩

theorem rnone1_w (X1 X2 : Nat)
    (h1 : (Ieee.double.order X1 X1 != some .eq) = false)
    (h2 : (Ieee.double.order X2 X2 != some .eq) = true) (w : World) :
    Calls Tryz.prog 105 #[.agg #[.float .f64 X1, .float .f64 X2]] w fun e w' => e = .returned (.bool true) ∧ Below w.heap.size w w' := by
  go_enter Tryz.func105, Tryz.ntmps105
  go_wp2_with fail
  go_ret
  exact ⟨rfl, (Below.refl _ _).alloc (Nat.le_refl _) _⟩

theorem rnone2_w (X1 X2 : Nat)
    (h1 : (Ieee.double.order X1 X1 != some .eq) = false)
    (h2 : (Ieee.double.order X2 X2 != some .eq) = false)
    (h3 : (Ieee.double.order X1 X2 == some .gt) = true) (w : World) :
    Calls Tryz.prog 105 #[.agg #[.float .f64 X1, .float .f64 X2]] w fun e w' => e = .returned (.bool true) ∧ Below w.heap.size w w' := by
  go_enter Tryz.func105, Tryz.ntmps105
  go_wp2_with fail
  go_ret
  exact ⟨rfl, (Below.refl _ _).alloc (Nat.le_refl _) _⟩

theorem rnone3_w (X1 X2 : Nat)
    (h1 : (Ieee.double.order X1 X1 != some .eq) = false)
    (h2 : (Ieee.double.order X2 X2 != some .eq) = false)
    (h3 : (Ieee.double.order X1 X2 == some .gt) = false)
    (h4 : (Ieee.double.order X1 9218868437227405311 == some .gt) = true) (w : World) :
    Calls Tryz.prog 105 #[.agg #[.float .f64 X1, .float .f64 X2]] w fun e w' => e = .returned (.bool true) ∧ Below w.heap.size w w' := by
  go_enter Tryz.func105, Tryz.ntmps105
  go_wp2_with fail
  go_ret
  exact ⟨rfl, (Below.refl _ _).alloc (Nat.le_refl _) _⟩

theorem rnone4_w (X1 X2 : Nat)
    (h1 : (Ieee.double.order X1 X1 != some .eq) = false)
    (h2 : (Ieee.double.order X2 X2 != some .eq) = false)
    (h3 : (Ieee.double.order X1 X2 == some .gt) = false)
    (h4 : (Ieee.double.order X1 9218868437227405311 == some .gt) = false)
    (h5 : (Ieee.double.order X2 18442240474082181119 == some .lt) = true) (w : World) :
    Calls Tryz.prog 105 #[.agg #[.float .f64 X1, .float .f64 X2]] w fun e w' => e = .returned (.bool true) ∧ Below w.heap.size w w' := by
  go_enter Tryz.func105, Tryz.ntmps105
  go_wp2_with fail
  go_ret
  exact ⟨rfl, (Below.refl _ _).alloc (Nat.le_refl _) _⟩

theorem rnone5_w (X1 X2 : Nat)
    (h1 : (Ieee.double.order X1 X1 != some .eq) = false)
    (h2 : (Ieee.double.order X2 X2 != some .eq) = false)
    (h3 : (Ieee.double.order X1 X2 == some .gt) = false)
    (h4 : (Ieee.double.order X1 9218868437227405311 == some .gt) = false)
    (h5 : (Ieee.double.order X2 18442240474082181119 == some .lt) = false) (w : World) :
    Calls Tryz.prog 105 #[.agg #[.float .f64 X1, .float .f64 X2]] w fun e w' => e = .returned (.bool false) ∧ Below w.heap.size w w' := by
  go_enter Tryz.func105, Tryz.ntmps105
  go_wp2_with fail
  go_ret
  exact ⟨rfl, (Below.refl _ _).alloc (Nat.le_refl _) _⟩

theorem rempty_w (e1 e2 : Nat)
    (i1 : ∀ w, Calls Tryz.prog 141 #[.int .i64 1] w fun e w' => e = .returned (.float .f64 e1) ∧ w' = w)
    (i2 : ∀ w, Calls Tryz.prog 141 #[.int .i64 (-1)] w fun e w' => e = .returned (.float .f64 e2) ∧ w' = w) (w : World) :
    Calls Tryz.prog 106 #[] w fun e w' => e = .returned (.agg #[.float .f64 e1, .float .f64 e2]) ∧ Below w.heap.size w w' := by
  go_enter Tryz.func106, Tryz.ntmps106
  go_wp2_with fail
  go_at_call 141
  refine (i1 _).mono ?_
  rintro e w' ⟨rfl, rfl⟩
  go_wp2_with fail
  go_at_call 141
  refine (i2 _).mono ?_
  rintro e w' ⟨rfl, rfl⟩
  go_wp2_with fail
  refine bodyPost_ret (v := .agg #[.float .f64 e1, .float .f64 e2]) (by simp [results, Tryz.results106, go_sem, *]) rfl ⟨rfl, ?_⟩
  repeat (first | exact Below.refl _ _ | assumption | refine Below.drew ?_ | refine bl_drewN ?_ _ | refine Below.setCell ?_ (by first | omega | (simp; done) | (simp; omega)) _ | refine Below.alloc ?_ (by first | omega | (simp; done) | (simp; omega)) _ | refine bl_next ?_ (by assumption) | refine bl_trans ?_ (by assumption) (by first | omega | (simp; done) | (simp; omega)))

theorem rplain_w (x y a b : Nat)
    (h1 : Ieee.double.add x 0 = some a)
    (h2 : Ieee.double.add y 0 = some b) (w : World) :
    Calls Tryz.prog 79 #[.float .f64 x, .float .f64 y] w fun e w' => e = .returned (.agg #[.float .f64 a, .float .f64 b]) ∧ Below w.heap.size w w' := by
  have a1 := fun t' w => run_float_arith (P := Tryz.prog) w .add t' .f64 _ _ _ h1
  have a2 := fun t' w => run_float_arith (P := Tryz.prog) w .add t' .f64 _ _ _ h2
  clear h1 h2
  go_enter Tryz.func79, Tryz.ntmps79
  go_wp2_with fail
  refine bodyPost_ret (v := .agg #[.float .f64 a, .float .f64 b]) (by simp [results, Tryz.results79, go_sem, *]) rfl ⟨rfl, ?_⟩
  repeat (first | exact Below.refl _ _ | assumption | refine Below.drew ?_ | refine bl_drewN ?_ _ | refine Below.setCell ?_ (by first | omega | (simp; done) | (simp; omega)) _ | refine Below.alloc ?_ (by first | omega | (simp; done) | (simp; omega)) _ | refine bl_next ?_ (by assumption) | refine bl_trans ?_ (by assumption) (by first | omega | (simp; done) | (simp; omega)))

theorem rneg_ok_w (X1 X2 a b c d : Nat)
    (nx : ∀ w, Calls Tryz.prog 105 #[.agg #[.float .f64 X1, .float .f64 X2]] w fun e w' => e = .returned (.bool false) ∧ Below w.heap.size w w')
    (h1 : Ieee.double.sub 0 X2 = some a)
    (h2 : Ieee.double.sub 0 X1 = some b)
    (p : ∀ w, Calls Tryz.prog 79 #[.float .f64 a, .float .f64 b] w fun e w' => e = .returned (.agg #[.float .f64 c, .float .f64 d]) ∧ Below w.heap.size w w') (w : World) :
    Calls Tryz.prog 80 #[.agg #[.float .f64 X1, .float .f64 X2]] w fun e w' => e = .returned (.agg #[.float .f64 c, .float .f64 d]) ∧ Below w.heap.size w w' := by
  have a1 := fun t' w => run_float_arith (P := Tryz.prog) w .sub t' .f64 _ _ _ h1
  have a2 := fun t' w => run_float_arith (P := Tryz.prog) w .sub t' .f64 _ _ _ h2
  clear h1 h2
  go_enter Tryz.func80, Tryz.ntmps80
  go_wp2_with fail
  go_at_call 105
  refine (nx _).mono ?_
  rintro e w1 ⟨rfl, hb1⟩
  have s1 := hb1.size
  try simp at s1
  have l1_0 : w.heap.size < w1.heap.size := (by omega)
  have c1_1_0 : w1.cell? ⟨w.heap.size, 0, none⟩ = some (.float .f64 X1) := bkeep hb1 (by first | assumption | (simp [go_sem]; done) | (simp [*]; done) | (simp [go_sem, *]; done) | exact bkeep (bl_alloc (Below.refl _ _)) (by assumption) (by first | omega | (simp; done) | (simp; omega))) (by first | omega | (simp; done) | (simp; omega))
  have c1_2_1 : w1.cell? ⟨w.heap.size, 1, none⟩ = some (.float .f64 X2) := bkeep hb1 (by first | assumption | (simp [go_sem]; done) | (simp [*]; done) | (simp [go_sem, *]; done) | exact bkeep (bl_alloc (Below.refl _ _)) (by assumption) (by first | omega | (simp; done) | (simp; omega))) (by first | omega | (simp; done) | (simp; omega))
  have l1_3 : w.heap.size + 1 < w1.heap.size := (by omega)
  have c1_4_0 : w1.cell? ⟨w.heap.size + 1, 0, none⟩ = some (.float .f64 0) := bkeep hb1 (by first | assumption | (simp [go_sem]; done) | (simp [*]; done) | (simp [go_sem, *]; done) | exact bkeep (bl_alloc (Below.refl _ _)) (by assumption) (by first | omega | (simp; done) | (simp; omega))) (by first | omega | (simp; done) | (simp; omega))
  have f1_4_0 : w1.frozen? ⟨w.heap.size + 1, 0, none⟩ = false := bfroz hb1 (by first | assumption | (simp [go_sem]; done) | (simp [*]; done) | (simp [go_sem, *]; done) | exact bfroz (bl_alloc (Below.refl _ _)) (by assumption) (by first | omega | (simp; done) | (simp; omega))) (by first | omega | (simp; done) | (simp; omega))
  have c1_5_1 : w1.cell? ⟨w.heap.size + 1, 1, none⟩ = some (.float .f64 0) := bkeep hb1 (by first | assumption | (simp [go_sem]; done) | (simp [*]; done) | (simp [go_sem, *]; done) | exact bkeep (bl_alloc (Below.refl _ _)) (by assumption) (by first | omega | (simp; done) | (simp; omega))) (by first | omega | (simp; done) | (simp; omega))
  have f1_5_1 : w1.frozen? ⟨w.heap.size + 1, 1, none⟩ = false := bfroz hb1 (by first | assumption | (simp [go_sem]; done) | (simp [*]; done) | (simp [go_sem, *]; done) | exact bfroz (bl_alloc (Below.refl _ _)) (by assumption) (by first | omega | (simp; done) | (simp; omega))) (by first | omega | (simp; done) | (simp; omega))
  go_wp2_with fail
  go_at_call 79
  refine (p _).mono ?_
  rintro e w2 ⟨rfl, hb2⟩
  have s2 := hb2.size
  try simp at s2
  have l2_0 : w.heap.size < w2.heap.size := (by omega)
  have c2_1_0 : w2.cell? ⟨w.heap.size, 0, none⟩ = some (.float .f64 X1) := bkeep hb2 (by first | assumption | (simp [go_sem]; done) | (simp [*]; done) | (simp [go_sem, *]; done) | exact bkeep (bl_alloc (Below.refl _ _)) (by assumption) (by first | omega | (simp; done) | (simp; omega))) (by first | omega | (simp; done) | (simp; omega))
  have c2_2_1 : w2.cell? ⟨w.heap.size, 1, none⟩ = some (.float .f64 X2) := bkeep hb2 (by first | assumption | (simp [go_sem]; done) | (simp [*]; done) | (simp [go_sem, *]; done) | exact bkeep (bl_alloc (Below.refl _ _)) (by assumption) (by first | omega | (simp; done) | (simp; omega))) (by first | omega | (simp; done) | (simp; omega))
  have l2_3 : w.heap.size + 1 < w2.heap.size := (by omega)
  have c2_4_0 : w2.cell? ⟨w.heap.size + 1, 0, none⟩ = some (.float .f64 0) := bkeep hb2 (by first | assumption | (simp [go_sem]; done) | (simp [*]; done) | (simp [go_sem, *]; done) | exact bkeep (bl_alloc (Below.refl _ _)) (by assumption) (by first | omega | (simp; done) | (simp; omega))) (by first | omega | (simp; done) | (simp; omega))
  have f2_4_0 : w2.frozen? ⟨w.heap.size + 1, 0, none⟩ = false := bfroz hb2 (by first | assumption | (simp [go_sem]; done) | (simp [*]; done) | (simp [go_sem, *]; done) | exact bfroz (bl_alloc (Below.refl _ _)) (by assumption) (by first | omega | (simp; done) | (simp; omega))) (by first | omega | (simp; done) | (simp; omega))
  have c2_5_1 : w2.cell? ⟨w.heap.size + 1, 1, none⟩ = some (.float .f64 0) := bkeep hb2 (by first | assumption | (simp [go_sem]; done) | (simp [*]; done) | (simp [go_sem, *]; done) | exact bkeep (bl_alloc (Below.refl _ _)) (by assumption) (by first | omega | (simp; done) | (simp; omega))) (by first | omega | (simp; done) | (simp; omega))
  have f2_5_1 : w2.frozen? ⟨w.heap.size + 1, 1, none⟩ = false := bfroz hb2 (by first | assumption | (simp [go_sem]; done) | (simp [*]; done) | (simp [go_sem, *]; done) | exact bfroz (bl_alloc (Below.refl _ _)) (by assumption) (by first | omega | (simp; done) | (simp; omega))) (by first | omega | (simp; done) | (simp; omega))
  clear l1_0 c1_1_0 c1_2_1 l1_3 c1_4_0 f1_4_0 c1_5_1 f1_5_1
  go_wp2_with fail
  refine bodyPost_ret (v := .agg #[.float .f64 c, .float .f64 d]) (by simp [results, Tryz.results80, go_sem, *]) rfl ⟨rfl, ?_⟩
  repeat (first | exact Below.refl _ _ | assumption | refine Below.drew ?_ | refine bl_drewN ?_ _ | refine Below.setCell ?_ (by first | omega | (simp; done) | (simp; omega)) _ | refine Below.alloc ?_ (by first | omega | (simp; done) | (simp; omega)) _ | refine bl_next ?_ (by assumption) | refine bl_trans ?_ (by assumption) (by first | omega | (simp; done) | (simp; omega)))

theorem interval_w (x y : Nat) (w : World) :
    Calls Tryz.prog 62 #[.float .f64 x, .float .f64 y] w fun e w' => e = .returned (.agg #[.float .f64 x, .float .f64 y]) ∧ Below w.heap.size w w' := by
  go_enter Tryz.func62, Tryz.ntmps62
  go_wp2_with fail
  refine bodyPost_ret (v := .agg #[.float .f64 x, .float .f64 y]) (by simp [results, Tryz.results62, go_sem, *]) rfl ⟨rfl, ?_⟩
  repeat (first | exact Below.refl _ _ | assumption | refine Below.drew ?_ | refine bl_drewN ?_ _ | refine Below.setCell ?_ (by first | omega | (simp; done) | (simp; omega)) _ | refine Below.alloc ?_ (by first | omega | (simp; done) | (simp; omega)) _ | refine bl_next ?_ (by assumption) | refine bl_trans ?_ (by assumption) (by first | omega | (simp; done) | (simp; omega)))

theorem alike_w (X1 X2 : Nat)
    (m1 : ∀ w, Calls Tryz.prog 61 #[.float .f64 X1, .float .f64 X1] w fun e w' => e = .returned (.bool true) ∧ w' = w)
    (m2 : ∀ w, Calls Tryz.prog 61 #[.float .f64 X2, .float .f64 X2] w fun e w' => e = .returned (.bool true) ∧ w' = w) (w : World) :
    Calls Tryz.prog 43 #[.agg #[.float .f64 X1, .float .f64 X2], .agg #[.float .f64 X1, .float .f64 X2]] w fun e w' => e = .returned (.bool true) ∧ Below w.heap.size w w' := by
  go_enter Tryz.func43, Tryz.ntmps43
  go_wp2_with fail
  go_at_call 61
  refine (m1 _).mono ?_
  rintro e w' ⟨rfl, rfl⟩
  go_wp2_with fail
  go_at_call 61
  refine (m2 _).mono ?_
  rintro e w' ⟨rfl, rfl⟩
  go_wp2_with fail
  go_ret
  refine ⟨rfl, ?_⟩
  repeat (first | exact Below.refl _ _ | assumption | refine Below.drew ?_ | refine bl_drewN ?_ _ | refine Below.setCell ?_ (by first | omega | (simp; done) | (simp; omega)) _ | refine Below.alloc ?_ (by first | omega | (simp; done) | (simp; omega)) _ | refine bl_next ?_ (by assumption) | refine bl_trans ?_ (by assumption) (by first | omega | (simp; done) | (simp; omega)))

end Go.Proofs.YtacnclofbnafiabGreatDoor
