import Derived.Test.YtacnclofbnafiabGreatDoorCA
import Derived.Test.YtacnclofbnafiabGreatDoorK10
import Derived.Test.YtacnclofbnafiabGreatDoorQB
namespace Go.Proofs.YtacnclofbnafiabGreatDoor
open Go.RowKit Fl

set_option maxHeartbeats 4000000 in
theorem boxConj_w (X1 X2 X3 X4 a b c0 d0 c d e1 e2 e3 e4 : Nat)
    (p1 : ∀ w, Calls Tryz.prog 133 #[.agg #[.float .f64 X1, .float .f64 X2]] w fun e w' => e = .returned (.agg #[.float .f64 a, .float .f64 b]) ∧ Below w.heap.size w w')
    (ng : ∀ w, Calls Tryz.prog 134 #[.agg #[.float .f64 X3, .float .f64 X4]] w fun e w' => e = .returned (.agg #[.float .f64 c0, .float .f64 d0]) ∧ Below w.heap.size w w')
    (p2 : ∀ w, Calls Tryz.prog 133 #[.agg #[.float .f64 c0, .float .f64 d0]] w fun e w' => e = .returned (.agg #[.float .f64 c, .float .f64 d]) ∧ Below w.heap.size w w')
    (bo : ∀ w, Calls Tryz.prog 117 #[.agg #[.float .f64 a, .float .f64 b], .agg #[.float .f64 c, .float .f64 d]] w fun e w' => e = .returned (.agg #[.float .f64 e1, .float .f64 e2, .float .f64 e3, .float .f64 e4]) ∧ Below w.heap.size w w') (w : World) :
    Calls Tryz.prog 94 #[.agg #[.float .f64 X1, .float .f64 X2, .float .f64 X3, .float .f64 X4]] w fun e w' => e = .returned (.agg #[.float .f64 e1, .float .f64 e2, .float .f64 e3, .float .f64 e4]) ∧ Below w.heap.size w w' := by
  go_enter Tryz.func94, Tryz.ntmps94
  go_wp2_with fail
  obtain ⟨w0, hw0⟩ : ∃ v, v = ((w.alloc (.cells #[.float .f64 X1, .float .f64 X2, .float .f64 X3, .float .f64 X4] 39)).alloc (.cells #[.float .f64 0, .float .f64 0, .float .f64 0, .float .f64 0] 39)) := ⟨_, rfl⟩
  rw [← hw0]
  have c00 : w0.cell? ⟨w.heap.size, 0, none⟩ = some (.float .f64 X1) := by simp [hw0, go_sem]
  have c01 : w0.cell? ⟨w.heap.size, 1, none⟩ = some (.float .f64 X2) := by simp [hw0, go_sem]
  have c02 : w0.cell? ⟨w.heap.size, 2, none⟩ = some (.float .f64 X3) := by simp [hw0, go_sem]
  have c03 : w0.cell? ⟨w.heap.size, 3, none⟩ = some (.float .f64 X4) := by simp [hw0, go_sem]
  have c10 : w0.cell? ⟨w.heap.size + 1, 0, none⟩ = some (.float .f64 0) := by simp [hw0, go_sem]
  have fc10 : w0.frozen? ⟨w.heap.size + 1, 0, none⟩ = false := by simp [hw0, go_sem]
  have c11 : w0.cell? ⟨w.heap.size + 1, 1, none⟩ = some (.float .f64 0) := by simp [hw0, go_sem]
  have fc11 : w0.frozen? ⟨w.heap.size + 1, 1, none⟩ = false := by simp [hw0, go_sem]
  have c12 : w0.cell? ⟨w.heap.size + 1, 2, none⟩ = some (.float .f64 0) := by simp [hw0, go_sem]
  have fc12 : w0.frozen? ⟨w.heap.size + 1, 2, none⟩ = false := by simp [hw0, go_sem]
  have c13 : w0.cell? ⟨w.heap.size + 1, 3, none⟩ = some (.float .f64 0) := by simp [hw0, go_sem]
  have fc13 : w0.frozen? ⟨w.heap.size + 1, 3, none⟩ = false := by simp [hw0, go_sem]
  have s0 : w.heap.size + 1 + 1 ≤ w0.heap.size := by simp [hw0]
  have hB0 : Below w.heap.size w w0 := by
    rw [hw0]
    repeat (with_reducible first | exact Below.refl _ _ | assumption | refine Below.drew ?_ | refine bl_drewN ?_ _ | refine Below.setCell ?_ (by first | omega | (simp; done) | (simp; omega)) _ | refine Below.alloc ?_ (by first | omega | (simp; done) | (simp; omega)) _ | refine bl_next ?_ (by assumption) | refine bl_trans ?_ (by assumption) (by first | omega | (simp; done) | (simp; omega)))
  clear hw0
  go_region_held3 (fun w' => w'.cell? ⟨w.heap.size, 0, none⟩ = some (.float .f64 X1) ∧ w'.cell? ⟨w.heap.size, 1, none⟩ = some (.float .f64 X2) ∧ w'.cell? ⟨w.heap.size, 2, none⟩ = some (.float .f64 X3) ∧ w'.cell? ⟨w.heap.size, 3, none⟩ = some (.float .f64 X4)) (((try dsimp only); (try go_split_ands); (repeat' apply And.intro) <;> first | (with_reducible assumption) | (rw [set_other (by first | omega | (simp; done) | (simp; omega)), set_other (by first | omega | (simp; done) | (simp; omega)), set_other (by first | omega | (simp; done) | (simp; omega)), set_other (by first | omega | (simp; done) | (simp; omega))]; (with_reducible assumption)) | (with_reducible refine bkeep2 hb ?_; first | (with_reducible assumption) | (simp [*]; done)) | go_keep)) (first | (go_at_call 133; with_reducible refine (p1 _).mono ?_; rintro e w' ⟨rfl, hb⟩; have z0 := bkeep2 hb (p := ⟨w.heap.size + 1, 0, none⟩) (v := .float .f64 0) (by first | (with_reducible assumption) | simp [*]); have y0 := bfroz2 hb (p := ⟨w.heap.size + 1, 0, none⟩) (v := .float .f64 0) (by first | (with_reducible assumption) | simp [*]) (by first | (with_reducible assumption) | simp [*]); have z1 := bkeep2 hb (p := ⟨w.heap.size + 1, 1, none⟩) (v := .float .f64 0) (by first | (with_reducible assumption) | simp [*]); have y1 := bfroz2 hb (p := ⟨w.heap.size + 1, 1, none⟩) (v := .float .f64 0) (by first | (with_reducible assumption) | simp [*]) (by first | (with_reducible assumption) | simp [*]); have z2 := bkeep2 hb (p := ⟨w.heap.size + 1, 2, none⟩) (v := .float .f64 0) (by first | (with_reducible assumption) | simp [*]); have y2 := bfroz2 hb (p := ⟨w.heap.size + 1, 2, none⟩) (v := .float .f64 0) (by first | (with_reducible assumption) | simp [*]) (by first | (with_reducible assumption) | simp [*]); have z3 := bkeep2 hb (p := ⟨w.heap.size + 1, 3, none⟩) (v := .float .f64 0) (by first | (with_reducible assumption) | simp [*]); have y3 := bfroz2 hb (p := ⟨w.heap.size + 1, 3, none⟩) (v := .float .f64 0) (by first | (with_reducible assumption) | simp [*]) (by first | (with_reducible assumption) | simp [*])) | (go_at_call 134; with_reducible refine (ng _).mono ?_; rintro e w' ⟨rfl, hb⟩; have z0 := bkeep2 hb (p := ⟨w.heap.size + 1, 0, none⟩) (v := .float .f64 0) (by first | (with_reducible assumption) | simp [*]); have y0 := bfroz2 hb (p := ⟨w.heap.size + 1, 0, none⟩) (v := .float .f64 0) (by first | (with_reducible assumption) | simp [*]) (by first | (with_reducible assumption) | simp [*]); have z1 := bkeep2 hb (p := ⟨w.heap.size + 1, 1, none⟩) (v := .float .f64 0) (by first | (with_reducible assumption) | simp [*]); have y1 := bfroz2 hb (p := ⟨w.heap.size + 1, 1, none⟩) (v := .float .f64 0) (by first | (with_reducible assumption) | simp [*]) (by first | (with_reducible assumption) | simp [*]); have z2 := bkeep2 hb (p := ⟨w.heap.size + 1, 2, none⟩) (v := .float .f64 0) (by first | (with_reducible assumption) | simp [*]); have y2 := bfroz2 hb (p := ⟨w.heap.size + 1, 2, none⟩) (v := .float .f64 0) (by first | (with_reducible assumption) | simp [*]) (by first | (with_reducible assumption) | simp [*]); have z3 := bkeep2 hb (p := ⟨w.heap.size + 1, 3, none⟩) (v := .float .f64 0) (by first | (with_reducible assumption) | simp [*]); have y3 := bfroz2 hb (p := ⟨w.heap.size + 1, 3, none⟩) (v := .float .f64 0) (by first | (with_reducible assumption) | simp [*]) (by first | (with_reducible assumption) | simp [*])) | (go_at_call 133; with_reducible refine (p2 _).mono ?_; rintro e w' ⟨rfl, hb⟩; have z0 := bkeep2 hb (p := ⟨w.heap.size + 1, 0, none⟩) (v := .float .f64 0) (by first | (with_reducible assumption) | simp [*]); have y0 := bfroz2 hb (p := ⟨w.heap.size + 1, 0, none⟩) (v := .float .f64 0) (by first | (with_reducible assumption) | simp [*]) (by first | (with_reducible assumption) | simp [*]); have z1 := bkeep2 hb (p := ⟨w.heap.size + 1, 1, none⟩) (v := .float .f64 0) (by first | (with_reducible assumption) | simp [*]); have y1 := bfroz2 hb (p := ⟨w.heap.size + 1, 1, none⟩) (v := .float .f64 0) (by first | (with_reducible assumption) | simp [*]) (by first | (with_reducible assumption) | simp [*]); have z2 := bkeep2 hb (p := ⟨w.heap.size + 1, 2, none⟩) (v := .float .f64 0) (by first | (with_reducible assumption) | simp [*]); have y2 := bfroz2 hb (p := ⟨w.heap.size + 1, 2, none⟩) (v := .float .f64 0) (by first | (with_reducible assumption) | simp [*]) (by first | (with_reducible assumption) | simp [*]); have z3 := bkeep2 hb (p := ⟨w.heap.size + 1, 3, none⟩) (v := .float .f64 0) (by first | (with_reducible assumption) | simp [*]); have y3 := bfroz2 hb (p := ⟨w.heap.size + 1, 3, none⟩) (v := .float .f64 0) (by first | (with_reducible assumption) | simp [*]) (by first | (with_reducible assumption) | simp [*])) | (go_at_call 117; with_reducible refine (bo _).mono ?_; rintro e w' ⟨rfl, hb⟩; have z0 := bkeep2 hb (p := ⟨w.heap.size + 1, 0, none⟩) (v := .float .f64 0) (by first | (with_reducible assumption) | simp [*]); have y0 := bfroz2 hb (p := ⟨w.heap.size + 1, 0, none⟩) (v := .float .f64 0) (by first | (with_reducible assumption) | simp [*]) (by first | (with_reducible assumption) | simp [*]); have z1 := bkeep2 hb (p := ⟨w.heap.size + 1, 1, none⟩) (v := .float .f64 0) (by first | (with_reducible assumption) | simp [*]); have y1 := bfroz2 hb (p := ⟨w.heap.size + 1, 1, none⟩) (v := .float .f64 0) (by first | (with_reducible assumption) | simp [*]) (by first | (with_reducible assumption) | simp [*]); have z2 := bkeep2 hb (p := ⟨w.heap.size + 1, 2, none⟩) (v := .float .f64 0) (by first | (with_reducible assumption) | simp [*]); have y2 := bfroz2 hb (p := ⟨w.heap.size + 1, 2, none⟩) (v := .float .f64 0) (by first | (with_reducible assumption) | simp [*]) (by first | (with_reducible assumption) | simp [*]); have z3 := bkeep2 hb (p := ⟨w.heap.size + 1, 3, none⟩) (v := .float .f64 0) (by first | (with_reducible assumption) | simp [*]); have y3 := bfroz2 hb (p := ⟨w.heap.size + 1, 3, none⟩) (v := .float .f64 0) (by first | (with_reducible assumption) | simp [*]) (by first | (with_reducible assumption) | simp [*])))
  all_goals (go_wp2_with fail; refine bodyPost_ret (v := .agg #[.float .f64 e1, .float .f64 e2, .float .f64 e3, .float .f64 e4]) (by simp [results, Tryz.results94, go_sem, *]) rfl ⟨rfl, ?_⟩; repeat (with_reducible first | exact Below.refl _ _ | assumption | refine Below.drew ?_ | refine bl_drewN ?_ _ | refine Below.setCell ?_ (by first | omega | (simp; done) | (simp; omega)) _ | refine Below.alloc ?_ (by first | omega | (simp; done) | (simp; omega)) _ | refine bl_next ?_ (by assumption) | refine bl_trans ?_ (by assumption) (by first | omega | (simp; done) | (simp; omega))))

set_option maxHeartbeats 4000000 in
theorem boxConj_nan_w (X1 X2 X3 X4 a b c d e1 e2 e3 e4 : Nat)
    (p1 : ∀ w, Calls Tryz.prog 133 #[.agg #[.float .f64 X1, .float .f64 X2]] w fun e w' => e = .returned (.agg #[.float .f64 a, .float .f64 b]) ∧ Below w.heap.size w w')
    (ng : NegNan X3 X4)
    (p2 : ∀ c0 d0 : Nat, NoIv c0 d0 → c0 < 18446744073709551616 → d0 < 18446744073709551616 → ∀ w, Calls Tryz.prog 133 #[.agg #[.float .f64 c0, .float .f64 d0]] w fun e w' => e = .returned (.agg #[.float .f64 c, .float .f64 d]) ∧ Below w.heap.size w w')
    (bo : ∀ w, Calls Tryz.prog 117 #[.agg #[.float .f64 a, .float .f64 b], .agg #[.float .f64 c, .float .f64 d]] w fun e w' => e = .returned (.agg #[.float .f64 e1, .float .f64 e2, .float .f64 e3, .float .f64 e4]) ∧ Below w.heap.size w w') (w : World) :
    Calls Tryz.prog 94 #[.agg #[.float .f64 X1, .float .f64 X2, .float .f64 X3, .float .f64 X4]] w fun e w' => e = .returned (.agg #[.float .f64 e1, .float .f64 e2, .float .f64 e3, .float .f64 e4]) ∧ Below w.heap.size w w' := by
  unfold NegNan at ng
  go_enter Tryz.func94, Tryz.ntmps94
  go_wp2_with fail
  obtain ⟨w0, hw0⟩ : ∃ v, v = ((w.alloc (.cells #[.float .f64 X1, .float .f64 X2, .float .f64 X3, .float .f64 X4] 39)).alloc (.cells #[.float .f64 0, .float .f64 0, .float .f64 0, .float .f64 0] 39)) := ⟨_, rfl⟩
  rw [← hw0]
  have c00 : w0.cell? ⟨w.heap.size, 0, none⟩ = some (.float .f64 X1) := by simp [hw0, go_sem]
  have c01 : w0.cell? ⟨w.heap.size, 1, none⟩ = some (.float .f64 X2) := by simp [hw0, go_sem]
  have c02 : w0.cell? ⟨w.heap.size, 2, none⟩ = some (.float .f64 X3) := by simp [hw0, go_sem]
  have c03 : w0.cell? ⟨w.heap.size, 3, none⟩ = some (.float .f64 X4) := by simp [hw0, go_sem]
  have c10 : w0.cell? ⟨w.heap.size + 1, 0, none⟩ = some (.float .f64 0) := by simp [hw0, go_sem]
  have fc10 : w0.frozen? ⟨w.heap.size + 1, 0, none⟩ = false := by simp [hw0, go_sem]
  have c11 : w0.cell? ⟨w.heap.size + 1, 1, none⟩ = some (.float .f64 0) := by simp [hw0, go_sem]
  have fc11 : w0.frozen? ⟨w.heap.size + 1, 1, none⟩ = false := by simp [hw0, go_sem]
  have c12 : w0.cell? ⟨w.heap.size + 1, 2, none⟩ = some (.float .f64 0) := by simp [hw0, go_sem]
  have fc12 : w0.frozen? ⟨w.heap.size + 1, 2, none⟩ = false := by simp [hw0, go_sem]
  have c13 : w0.cell? ⟨w.heap.size + 1, 3, none⟩ = some (.float .f64 0) := by simp [hw0, go_sem]
  have fc13 : w0.frozen? ⟨w.heap.size + 1, 3, none⟩ = false := by simp [hw0, go_sem]
  have s0 : w.heap.size + 1 + 1 ≤ w0.heap.size := by simp [hw0]
  have hB0 : Below w.heap.size w w0 := by
    rw [hw0]
    repeat (with_reducible first | exact Below.refl _ _ | assumption | refine Below.drew ?_ | refine bl_drewN ?_ _ | refine Below.setCell ?_ (by first | omega | (simp; done) | (simp; omega)) _ | refine Below.alloc ?_ (by first | omega | (simp; done) | (simp; omega)) _ | refine bl_next ?_ (by assumption) | refine bl_trans ?_ (by assumption) (by first | omega | (simp; done) | (simp; omega)))
  clear hw0
  go_region_held3 (fun w' => w'.cell? ⟨w.heap.size, 0, none⟩ = some (.float .f64 X1) ∧ w'.cell? ⟨w.heap.size, 1, none⟩ = some (.float .f64 X2) ∧ w'.cell? ⟨w.heap.size, 2, none⟩ = some (.float .f64 X3) ∧ w'.cell? ⟨w.heap.size, 3, none⟩ = some (.float .f64 X4)) (((try dsimp only); (try go_split_ands); (repeat' apply And.intro) <;> first | (with_reducible assumption) | (rw [set_other (by first | omega | (simp; done) | (simp; omega)), set_other (by first | omega | (simp; done) | (simp; omega)), set_other (by first | omega | (simp; done) | (simp; omega)), set_other (by first | omega | (simp; done) | (simp; omega))]; (with_reducible assumption)) | (with_reducible refine bkeep2 hb ?_; first | (with_reducible assumption) | (simp [*]; done)) | go_keep)) (first | (go_at_call 133; with_reducible refine (p1 _).mono ?_; rintro e w' ⟨rfl, hb⟩; have z0 := bkeep2 hb (p := ⟨w.heap.size + 1, 0, none⟩) (v := .float .f64 0) (by first | (with_reducible assumption) | simp [*]); have y0 := bfroz2 hb (p := ⟨w.heap.size + 1, 0, none⟩) (v := .float .f64 0) (by first | (with_reducible assumption) | simp [*]) (by first | (with_reducible assumption) | simp [*]); have z1 := bkeep2 hb (p := ⟨w.heap.size + 1, 1, none⟩) (v := .float .f64 0) (by first | (with_reducible assumption) | simp [*]); have y1 := bfroz2 hb (p := ⟨w.heap.size + 1, 1, none⟩) (v := .float .f64 0) (by first | (with_reducible assumption) | simp [*]) (by first | (with_reducible assumption) | simp [*]); have z2 := bkeep2 hb (p := ⟨w.heap.size + 1, 2, none⟩) (v := .float .f64 0) (by first | (with_reducible assumption) | simp [*]); have y2 := bfroz2 hb (p := ⟨w.heap.size + 1, 2, none⟩) (v := .float .f64 0) (by first | (with_reducible assumption) | simp [*]) (by first | (with_reducible assumption) | simp [*]); have z3 := bkeep2 hb (p := ⟨w.heap.size + 1, 3, none⟩) (v := .float .f64 0) (by first | (with_reducible assumption) | simp [*]); have y3 := bfroz2 hb (p := ⟨w.heap.size + 1, 3, none⟩) (v := .float .f64 0) (by first | (with_reducible assumption) | simp [*]) (by first | (with_reducible assumption) | simp [*])) | (go_at_call 134; with_reducible refine (ng _).mono ?_; rintro e w' ⟨c0, d0, rfl, hb, hn0, hc0, hd0⟩; have z0 := bkeep2 hb (p := ⟨w.heap.size + 1, 0, none⟩) (v := .float .f64 0) (by first | (with_reducible assumption) | simp [*]); have y0 := bfroz2 hb (p := ⟨w.heap.size + 1, 0, none⟩) (v := .float .f64 0) (by first | (with_reducible assumption) | simp [*]) (by first | (with_reducible assumption) | simp [*]); have z1 := bkeep2 hb (p := ⟨w.heap.size + 1, 1, none⟩) (v := .float .f64 0) (by first | (with_reducible assumption) | simp [*]); have y1 := bfroz2 hb (p := ⟨w.heap.size + 1, 1, none⟩) (v := .float .f64 0) (by first | (with_reducible assumption) | simp [*]) (by first | (with_reducible assumption) | simp [*]); have z2 := bkeep2 hb (p := ⟨w.heap.size + 1, 2, none⟩) (v := .float .f64 0) (by first | (with_reducible assumption) | simp [*]); have y2 := bfroz2 hb (p := ⟨w.heap.size + 1, 2, none⟩) (v := .float .f64 0) (by first | (with_reducible assumption) | simp [*]) (by first | (with_reducible assumption) | simp [*]); have z3 := bkeep2 hb (p := ⟨w.heap.size + 1, 3, none⟩) (v := .float .f64 0) (by first | (with_reducible assumption) | simp [*]); have y3 := bfroz2 hb (p := ⟨w.heap.size + 1, 3, none⟩) (v := .float .f64 0) (by first | (with_reducible assumption) | simp [*]) (by first | (with_reducible assumption) | simp [*])) | (go_at_call 133; with_reducible refine (p2 _ _ (by assumption) (by assumption) (by assumption) _).mono ?_; rintro e w' ⟨rfl, hb⟩; have z0 := bkeep2 hb (p := ⟨w.heap.size + 1, 0, none⟩) (v := .float .f64 0) (by first | (with_reducible assumption) | simp [*]); have y0 := bfroz2 hb (p := ⟨w.heap.size + 1, 0, none⟩) (v := .float .f64 0) (by first | (with_reducible assumption) | simp [*]) (by first | (with_reducible assumption) | simp [*]); have z1 := bkeep2 hb (p := ⟨w.heap.size + 1, 1, none⟩) (v := .float .f64 0) (by first | (with_reducible assumption) | simp [*]); have y1 := bfroz2 hb (p := ⟨w.heap.size + 1, 1, none⟩) (v := .float .f64 0) (by first | (with_reducible assumption) | simp [*]) (by first | (with_reducible assumption) | simp [*]); have z2 := bkeep2 hb (p := ⟨w.heap.size + 1, 2, none⟩) (v := .float .f64 0) (by first | (with_reducible assumption) | simp [*]); have y2 := bfroz2 hb (p := ⟨w.heap.size + 1, 2, none⟩) (v := .float .f64 0) (by first | (with_reducible assumption) | simp [*]) (by first | (with_reducible assumption) | simp [*]); have z3 := bkeep2 hb (p := ⟨w.heap.size + 1, 3, none⟩) (v := .float .f64 0) (by first | (with_reducible assumption) | simp [*]); have y3 := bfroz2 hb (p := ⟨w.heap.size + 1, 3, none⟩) (v := .float .f64 0) (by first | (with_reducible assumption) | simp [*]) (by first | (with_reducible assumption) | simp [*])) | (go_at_call 117; with_reducible refine (bo _).mono ?_; rintro e w' ⟨rfl, hb⟩; have z0 := bkeep2 hb (p := ⟨w.heap.size + 1, 0, none⟩) (v := .float .f64 0) (by first | (with_reducible assumption) | simp [*]); have y0 := bfroz2 hb (p := ⟨w.heap.size + 1, 0, none⟩) (v := .float .f64 0) (by first | (with_reducible assumption) | simp [*]) (by first | (with_reducible assumption) | simp [*]); have z1 := bkeep2 hb (p := ⟨w.heap.size + 1, 1, none⟩) (v := .float .f64 0) (by first | (with_reducible assumption) | simp [*]); have y1 := bfroz2 hb (p := ⟨w.heap.size + 1, 1, none⟩) (v := .float .f64 0) (by first | (with_reducible assumption) | simp [*]) (by first | (with_reducible assumption) | simp [*]); have z2 := bkeep2 hb (p := ⟨w.heap.size + 1, 2, none⟩) (v := .float .f64 0) (by first | (with_reducible assumption) | simp [*]); have y2 := bfroz2 hb (p := ⟨w.heap.size + 1, 2, none⟩) (v := .float .f64 0) (by first | (with_reducible assumption) | simp [*]) (by first | (with_reducible assumption) | simp [*]); have z3 := bkeep2 hb (p := ⟨w.heap.size + 1, 3, none⟩) (v := .float .f64 0) (by first | (with_reducible assumption) | simp [*]); have y3 := bfroz2 hb (p := ⟨w.heap.size + 1, 3, none⟩) (v := .float .f64 0) (by first | (with_reducible assumption) | simp [*]) (by first | (with_reducible assumption) | simp [*])))
  all_goals (go_wp2_with fail; refine bodyPost_ret (v := .agg #[.float .f64 e1, .float .f64 e2, .float .f64 e3, .float .f64 e4]) (by simp [results, Tryz.results94, go_sem, *]) rfl ⟨rfl, ?_⟩; repeat (with_reducible first | exact Below.refl _ _ | assumption | refine Below.drew ?_ | refine bl_drewN ?_ _ | refine Below.setCell ?_ (by first | omega | (simp; done) | (simp; omega)) _ | refine Below.alloc ?_ (by first | omega | (simp; done) | (simp; omega)) _ | refine bl_next ?_ (by assumption) | refine bl_trans ?_ (by assumption) (by first | omega | (simp; done) | (simp; omega))))

set_option maxHeartbeats 1000000 in
theorem discConj_n_w (a b r t1 t2 t3 : Nat)
    (h1 : ∀ w, Calls Tryz.prog 111 #[.agg #[.complex .f64 a b, .float .f64 r]] w fun e w' => e = .returned (.bool true) ∧ Below w.heap.size w w')
    (nd : ∀ w, Calls Tryz.prog 122 #[] w fun e w' => e = .returned (.agg #[.complex .f64 t1 t2, .float .f64 t3]) ∧ Below w.heap.size w w') (w : World) :
    Calls Tryz.prog 95 #[.agg #[.complex .f64 a b, .float .f64 r]] w fun e w' => e = .returned (.agg #[.complex .f64 t1 t2, .float .f64 t3]) ∧ Below w.heap.size w w' := by
  go_enter Tryz.func95, Tryz.ntmps95
  go_wp2_with fail
  obtain ⟨w0, hw0⟩ : ∃ v, v = ((w.alloc (.cells #[.complex .f64 a b, .float .f64 r] 42)).alloc (.cells #[.complex .f64 0 0, .float .f64 0] 42)) := ⟨_, rfl⟩
  rw [← hw0]
  have c00 : w0.cell? ⟨w.heap.size, 0, none⟩ = some (.complex .f64 a b) := by simp [hw0, go_sem]
  have c01 : w0.cell? ⟨w.heap.size, 1, none⟩ = some (.float .f64 r) := by simp [hw0, go_sem]
  have c10 : w0.cell? ⟨w.heap.size + 1, 0, none⟩ = some (.complex .f64 0 0) := by simp [hw0, go_sem]
  have fc10 : w0.frozen? ⟨w.heap.size + 1, 0, none⟩ = false := by simp [hw0, go_sem]
  have c11 : w0.cell? ⟨w.heap.size + 1, 1, none⟩ = some (.float .f64 0) := by simp [hw0, go_sem]
  have fc11 : w0.frozen? ⟨w.heap.size + 1, 1, none⟩ = false := by simp [hw0, go_sem]
  have s0 : w.heap.size + 1 + 1 ≤ w0.heap.size := by simp [hw0]
  have hB0 : Below w.heap.size w w0 := by
    rw [hw0]
    repeat (with_reducible first | exact Below.refl _ _ | assumption | refine Below.drew ?_ | refine bl_drewN ?_ _ | refine Below.setCell ?_ (by first | omega | (simp; done) | (simp; omega)) _ | refine Below.alloc ?_ (by first | omega | (simp; done) | (simp; omega)) _ | refine bl_next ?_ (by assumption) | refine bl_trans ?_ (by assumption) (by first | omega | (simp; done) | (simp; omega)))
  clear hw0
  go_at_call 111
  refine (h1 _).mono ?_
  rintro e w1 ⟨rfl, hb1⟩
  have s1 := hb1.size
  try simp at s1
  replace fc10 := bfroz2 hb1 c10 fc10
  replace fc11 := bfroz2 hb1 c11 fc11
  replace c00 := bkeep2 hb1 c00
  replace c01 := bkeep2 hb1 c01
  replace c10 := bkeep2 hb1 c10
  replace c11 := bkeep2 hb1 c11
  have l0 : w.heap.size < w1.heap.size := cell_lt c00
  have l1 : w.heap.size + 1 < w1.heap.size := cell_lt c10
  go_wp2_with fail
  go_at_call 122
  refine (nd _).mono ?_
  rintro e w2 ⟨rfl, hb2⟩
  have s2 := hb2.size
  try simp at s2
  replace fc10 := bfroz2 hb2 c10 fc10
  replace fc11 := bfroz2 hb2 c11 fc11
  replace c00 := bkeep2 hb2 c00
  replace c01 := bkeep2 hb2 c01
  replace c10 := bkeep2 hb2 c10
  replace c11 := bkeep2 hb2 c11
  have l0 : w.heap.size < w2.heap.size := cell_lt c00
  have l1 : w.heap.size + 1 < w2.heap.size := cell_lt c10
  go_wp2_with fail
  refine bodyPost_ret (v := .agg #[.complex .f64 t1 t2, .float .f64 t3]) (by simp [results, Tryz.results95, go_sem, *]) rfl ⟨rfl, ?_⟩
  repeat (with_reducible first | exact Below.refl _ _ | assumption | refine Below.drew ?_ | refine bl_drewN ?_ _ | refine Below.setCell ?_ (by first | omega | (simp; done) | (simp; omega)) _ | refine Below.alloc ?_ (by first | omega | (simp; done) | (simp; omega)) _ | refine bl_next ?_ (by assumption) | refine bl_trans ?_ (by assumption) (by first | omega | (simp; done) | (simp; omega)))

set_option maxHeartbeats 1000000 in
theorem discConj_a_w (a b r t1 t2 t3 : Nat)
    (h1 : ∀ w, Calls Tryz.prog 111 #[.agg #[.complex .f64 a b, .float .f64 r]] w fun e w' => e = .returned (.bool false) ∧ Below w.heap.size w w')
    (h2 : ∀ w, Calls Tryz.prog 113 #[.agg #[.complex .f64 a b, .float .f64 r]] w fun e w' => e = .returned (.bool true) ∧ Below w.heap.size w w')
    (nd : ∀ w, Calls Tryz.prog 135 #[] w fun e w' => e = .returned (.agg #[.complex .f64 t1 t2, .float .f64 t3]) ∧ Below w.heap.size w w') (w : World) :
    Calls Tryz.prog 95 #[.agg #[.complex .f64 a b, .float .f64 r]] w fun e w' => e = .returned (.agg #[.complex .f64 t1 t2, .float .f64 t3]) ∧ Below w.heap.size w w' := by
  go_enter Tryz.func95, Tryz.ntmps95
  go_wp2_with fail
  obtain ⟨w0, hw0⟩ : ∃ v, v = ((w.alloc (.cells #[.complex .f64 a b, .float .f64 r] 42)).alloc (.cells #[.complex .f64 0 0, .float .f64 0] 42)) := ⟨_, rfl⟩
  rw [← hw0]
  have c00 : w0.cell? ⟨w.heap.size, 0, none⟩ = some (.complex .f64 a b) := by simp [hw0, go_sem]
  have c01 : w0.cell? ⟨w.heap.size, 1, none⟩ = some (.float .f64 r) := by simp [hw0, go_sem]
  have c10 : w0.cell? ⟨w.heap.size + 1, 0, none⟩ = some (.complex .f64 0 0) := by simp [hw0, go_sem]
  have fc10 : w0.frozen? ⟨w.heap.size + 1, 0, none⟩ = false := by simp [hw0, go_sem]
  have c11 : w0.cell? ⟨w.heap.size + 1, 1, none⟩ = some (.float .f64 0) := by simp [hw0, go_sem]
  have fc11 : w0.frozen? ⟨w.heap.size + 1, 1, none⟩ = false := by simp [hw0, go_sem]
  have s0 : w.heap.size + 1 + 1 ≤ w0.heap.size := by simp [hw0]
  have hB0 : Below w.heap.size w w0 := by
    rw [hw0]
    repeat (with_reducible first | exact Below.refl _ _ | assumption | refine Below.drew ?_ | refine bl_drewN ?_ _ | refine Below.setCell ?_ (by first | omega | (simp; done) | (simp; omega)) _ | refine Below.alloc ?_ (by first | omega | (simp; done) | (simp; omega)) _ | refine bl_next ?_ (by assumption) | refine bl_trans ?_ (by assumption) (by first | omega | (simp; done) | (simp; omega)))
  clear hw0
  go_at_call 111
  refine (h1 _).mono ?_
  rintro e w1 ⟨rfl, hb1⟩
  have s1 := hb1.size
  try simp at s1
  replace fc10 := bfroz2 hb1 c10 fc10
  replace fc11 := bfroz2 hb1 c11 fc11
  replace c00 := bkeep2 hb1 c00
  replace c01 := bkeep2 hb1 c01
  replace c10 := bkeep2 hb1 c10
  replace c11 := bkeep2 hb1 c11
  have l0 : w.heap.size < w1.heap.size := cell_lt c00
  have l1 : w.heap.size + 1 < w1.heap.size := cell_lt c10
  go_wp2_with fail
  go_at_call 113
  refine (h2 _).mono ?_
  rintro e w2 ⟨rfl, hb2⟩
  have s2 := hb2.size
  try simp at s2
  replace fc10 := bfroz2 hb2 c10 fc10
  replace fc11 := bfroz2 hb2 c11 fc11
  replace c00 := bkeep2 hb2 c00
  replace c01 := bkeep2 hb2 c01
  replace c10 := bkeep2 hb2 c10
  replace c11 := bkeep2 hb2 c11
  have l0 : w.heap.size < w2.heap.size := cell_lt c00
  have l1 : w.heap.size + 1 < w2.heap.size := cell_lt c10
  go_wp2_with fail
  go_at_call 135
  refine (nd _).mono ?_
  rintro e w3 ⟨rfl, hb3⟩
  have s3 := hb3.size
  try simp at s3
  replace fc10 := bfroz2 hb3 c10 fc10
  replace fc11 := bfroz2 hb3 c11 fc11
  replace c00 := bkeep2 hb3 c00
  replace c01 := bkeep2 hb3 c01
  replace c10 := bkeep2 hb3 c10
  replace c11 := bkeep2 hb3 c11
  have l0 : w.heap.size < w3.heap.size := cell_lt c00
  have l1 : w.heap.size + 1 < w3.heap.size := cell_lt c10
  go_wp2_with fail
  refine bodyPost_ret (v := .agg #[.complex .f64 t1 t2, .float .f64 t3]) (by simp [results, Tryz.results95, go_sem, *]) rfl ⟨rfl, ?_⟩
  repeat (with_reducible first | exact Below.refl _ _ | assumption | refine Below.drew ?_ | refine bl_drewN ?_ _ | refine Below.setCell ?_ (by first | omega | (simp; done) | (simp; omega)) _ | refine Below.alloc ?_ (by first | omega | (simp; done) | (simp; omega)) _ | refine bl_next ?_ (by assumption) | refine bl_trans ?_ (by assumption) (by first | omega | (simp; done) | (simp; omega)))

set_option maxHeartbeats 1000000 in
theorem discConj_w (a b r t1 t2 t3 : Nat)
    (h1 : ∀ w, Calls Tryz.prog 111 #[.agg #[.complex .f64 a b, .float .f64 r]] w fun e w' => e = .returned (.bool false) ∧ Below w.heap.size w w')
    (h2 : ∀ w, Calls Tryz.prog 113 #[.agg #[.complex .f64 a b, .float .f64 r]] w fun e w' => e = .returned (.bool false) ∧ Below w.heap.size w w')
    (p1 : ∀ w, Calls Tryz.prog 136 #[.float .f64 a] w fun e w' => e = .returned (.float .f64 t1) ∧ Below w.heap.size w w')
    (hs : Ieee.double.sub 0 b = some t2)
    (p2 : ∀ w, Calls Tryz.prog 136 #[.float .f64 r] w fun e w' => e = .returned (.float .f64 t3) ∧ Below w.heap.size w w') (w : World) :
    Calls Tryz.prog 95 #[.agg #[.complex .f64 a b, .float .f64 r]] w fun e w' => e = .returned (.agg #[.complex .f64 t1 t2, .float .f64 t3]) ∧ Below w.heap.size w w' := by
  have q1 := fun t' w => run_float_arith (P := Tryz.prog) w .sub t' .f64 _ _ _ hs
  clear hs
  go_enter Tryz.func95, Tryz.ntmps95
  go_wp2_with fail
  obtain ⟨w0, hw0⟩ : ∃ v, v = ((w.alloc (.cells #[.complex .f64 a b, .float .f64 r] 42)).alloc (.cells #[.complex .f64 0 0, .float .f64 0] 42)) := ⟨_, rfl⟩
  rw [← hw0]
  have c00 : w0.cell? ⟨w.heap.size, 0, none⟩ = some (.complex .f64 a b) := by simp [hw0, go_sem]
  have c01 : w0.cell? ⟨w.heap.size, 1, none⟩ = some (.float .f64 r) := by simp [hw0, go_sem]
  have c10 : w0.cell? ⟨w.heap.size + 1, 0, none⟩ = some (.complex .f64 0 0) := by simp [hw0, go_sem]
  have fc10 : w0.frozen? ⟨w.heap.size + 1, 0, none⟩ = false := by simp [hw0, go_sem]
  have c11 : w0.cell? ⟨w.heap.size + 1, 1, none⟩ = some (.float .f64 0) := by simp [hw0, go_sem]
  have fc11 : w0.frozen? ⟨w.heap.size + 1, 1, none⟩ = false := by simp [hw0, go_sem]
  have s0 : w.heap.size + 1 + 1 ≤ w0.heap.size := by simp [hw0]
  have hB0 : Below w.heap.size w w0 := by
    rw [hw0]
    repeat (with_reducible first | exact Below.refl _ _ | assumption | refine Below.drew ?_ | refine bl_drewN ?_ _ | refine Below.setCell ?_ (by first | omega | (simp; done) | (simp; omega)) _ | refine Below.alloc ?_ (by first | omega | (simp; done) | (simp; omega)) _ | refine bl_next ?_ (by assumption) | refine bl_trans ?_ (by assumption) (by first | omega | (simp; done) | (simp; omega)))
  clear hw0
  go_at_call 111
  refine (h1 _).mono ?_
  rintro e w1 ⟨rfl, hb1⟩
  have s1 := hb1.size
  try simp at s1
  replace fc10 := bfroz2 hb1 c10 fc10
  replace fc11 := bfroz2 hb1 c11 fc11
  replace c00 := bkeep2 hb1 c00
  replace c01 := bkeep2 hb1 c01
  replace c10 := bkeep2 hb1 c10
  replace c11 := bkeep2 hb1 c11
  have l0 : w.heap.size < w1.heap.size := cell_lt c00
  have l1 : w.heap.size + 1 < w1.heap.size := cell_lt c10
  go_wp2_with fail
  go_at_call 113
  refine (h2 _).mono ?_
  rintro e w2 ⟨rfl, hb2⟩
  have s2 := hb2.size
  try simp at s2
  replace fc10 := bfroz2 hb2 c10 fc10
  replace fc11 := bfroz2 hb2 c11 fc11
  replace c00 := bkeep2 hb2 c00
  replace c01 := bkeep2 hb2 c01
  replace c10 := bkeep2 hb2 c10
  replace c11 := bkeep2 hb2 c11
  have l0 : w.heap.size < w2.heap.size := cell_lt c00
  have l1 : w.heap.size + 1 < w2.heap.size := cell_lt c10
  go_wp2_with fail
  go_region_held3 (fun w' => w'.cell? ⟨w.heap.size, 0, none⟩ = some (.complex .f64 a b) ∧ w'.cell? ⟨w.heap.size, 1, none⟩ = some (.float .f64 r)) (((try dsimp only); (try go_split_ands); (repeat' apply And.intro) <;> first | (with_reducible assumption) | (rw [set_other (by first | omega | (simp; done) | (simp; omega)), set_other (by first | omega | (simp; done) | (simp; omega))]; (with_reducible assumption)) | (with_reducible refine bkeep2 hb ?_; first | (with_reducible assumption) | (simp [*]; done)) | go_keep)) (first | (go_at_call 136; with_reducible refine (p1 _).mono ?_; rintro e w' ⟨rfl, hb⟩; have z0 := bkeep2 hb (p := ⟨w.heap.size + 1, 0, none⟩) (v := .complex .f64 0 0) (by first | (with_reducible assumption) | simp [*]); have y0 := bfroz2 hb (p := ⟨w.heap.size + 1, 0, none⟩) (v := .complex .f64 0 0) (by first | (with_reducible assumption) | simp [*]) (by first | (with_reducible assumption) | simp [*]); have z1 := bkeep2 hb (p := ⟨w.heap.size + 1, 1, none⟩) (v := .float .f64 0) (by first | (with_reducible assumption) | simp [*]); have y1 := bfroz2 hb (p := ⟨w.heap.size + 1, 1, none⟩) (v := .float .f64 0) (by first | (with_reducible assumption) | simp [*]) (by first | (with_reducible assumption) | simp [*])))
  all_goals (go_wp2_with fail; go_at_call 136; refine (p2 _).mono ?_; rintro e w3 ⟨rfl, hb3⟩; have x300 := bkeep2 hb3 (p := ⟨w.heap.size + 1, 0, none⟩) (v := .complex .f64 0 0) (by first | (with_reducible assumption) | simp [*]); have y300 := bfroz2 hb3 (p := ⟨w.heap.size + 1, 0, none⟩) (v := .complex .f64 0 0) (by first | (with_reducible assumption) | simp [*]) (by first | (with_reducible assumption) | simp [*]); have x301 := bkeep2 hb3 (p := ⟨w.heap.size + 1, 1, none⟩) (v := .float .f64 0) (by first | (with_reducible assumption) | simp [*]); have y301 := bfroz2 hb3 (p := ⟨w.heap.size + 1, 1, none⟩) (v := .float .f64 0) (by first | (with_reducible assumption) | simp [*]) (by first | (with_reducible assumption) | simp [*]); go_wp2_with fail; refine bodyPost_ret (v := .agg #[.complex .f64 t1 t2, .float .f64 t3]) (by simp [results, Tryz.results95, go_sem, *]) rfl ⟨rfl, ?_⟩; repeat (with_reducible first | exact Below.refl _ _ | assumption | refine Below.drew ?_ | refine bl_drewN ?_ _ | refine Below.setCell ?_ (by first | omega | (simp; done) | (simp; omega)) _ | refine Below.alloc ?_ (by first | omega | (simp; done) | (simp; omega)) _ | refine bl_next ?_ (by assumption) | refine bl_trans ?_ (by assumption) (by first | omega | (simp; done) | (simp; omega))))

end Go.Proofs.YtacnclofbnafiabGreatDoor

namespace Go.Proofs.YtacnclofbnafiabGreatDoor
open Go.RowKit Fl

theorem pdiscAdd_no {a b r a2 b2 r2 : Nat} (ha : a < 18446744073709551616) (hb : b < 18446744073709551616) (ha2 : a2 < 18446744073709551616) (hb2 : b2 < 18446744073709551616) (hr : r < 18446744073709551616) (_hr2 : r2 < 18446744073709551616) (h : DNo a b r ∨ DNo a2 b2 r2) : ∃ e f i, NoD e f i ∧ (∀ w, Calls Tryz.prog 89 #[.agg #[.complex .f64 a b, .float .f64 r], .agg #[.complex .f64 a2 b2, .float .f64 r2]] w fun e' w' => e' = .returned (.agg #[.complex .f64 e f, .float .f64 i]) ∧ Below w.heap.size w w') := by
  refine ⟨_, _, _, ⟨rfl, rfl, rfl⟩, (discAdd_w _ _ _ _ _ _ _ _ _ ?_)⟩
  rcases disc_cases a b r ha hb hr with ⟨x, y, t, g⟩ | g | g
  · rcases h with h | h
    · exact (h.not_fin g).elim
    · exact combine_n2_w _ _ _ _ _ _ _ _ _ _ _ (hasNone_fin g) (hasNone_yes ha2 hb2 h) pnoDisc
  · rcases h with h | h
    · exact (h.not_all g).elim
    · exact combine_n2_w _ _ _ _ _ _ _ _ _ _ _ (hasNone_all g) (hasNone_yes ha2 hb2 h) pnoDisc
  · exact combine_n1_w _ _ _ _ _ _ _ _ _ _ _ (hasNone_yes ha hb g) pnoDisc
theorem pdiscAdd_all1 {a b r a2 b2 r2 : Nat} (h : Key r INF) (h2 : (∃ x y t, DFin a2 b2 r2 x y t) ∨ Key r2 INF) : ∃ e f i, AllD e f i ∧ (∀ w, Calls Tryz.prog 89 #[.agg #[.complex .f64 a b, .float .f64 r], .agg #[.complex .f64 a2 b2, .float .f64 r2]] w fun e' w' => e' = .returned (.agg #[.complex .f64 e f, .float .f64 i]) ∧ Below w.heap.size w w') := by
  refine ⟨_, _, _, ⟨rfl, rfl, rfl⟩, (discAdd_w _ _ _ _ _ _ _ _ _ ?_)⟩
  rcases h2 with ⟨x, y, t, g⟩ | g
  · exact combine_a1_w _ _ _ _ _ _ _ _ _ _ _ (hasNone_all h) (hasNone_fin g) (hasAll_yes h) pallDisc
  · exact combine_a1_w _ _ _ _ _ _ _ _ _ _ _ (hasNone_all h) (hasNone_all g) (hasAll_yes h) pallDisc
theorem pdiscAdd_all2 {a b r a2 b2 r2 : Nat} {x y t : Int} (h : DFin a b r x y t) (h2 : Key r2 INF) : ∃ e f i, AllD e f i ∧ (∀ w, Calls Tryz.prog 89 #[.agg #[.complex .f64 a b, .float .f64 r], .agg #[.complex .f64 a2 b2, .float .f64 r2]] w fun e' w' => e' = .returned (.agg #[.complex .f64 e f, .float .f64 i]) ∧ Below w.heap.size w w') :=
  ⟨_, _, _, ⟨rfl, rfl, rfl⟩, (discAdd_w _ _ _ _ _ _ _ _ _ (combine_a2_w _ _ _ _ _ _ _ _ _ _ _ (hasNone_fin h) (hasNone_all h2) (hasAll_no h.kr (by have := h.r1; omega)) (hasAll_yes h2) pallDisc))⟩
theorem pdiscSub_no {a b r a2 b2 r2 : Nat} (ha : a < 18446744073709551616) (hb : b < 18446744073709551616) (ha2 : a2 < 18446744073709551616) (hb2 : b2 < 18446744073709551616) (hr : r < 18446744073709551616) (_hr2 : r2 < 18446744073709551616) (h : DNo a b r ∨ DNo a2 b2 r2) : ∃ e f i, NoD e f i ∧ (∀ w, Calls Tryz.prog 90 #[.agg #[.complex .f64 a b, .float .f64 r], .agg #[.complex .f64 a2 b2, .float .f64 r2]] w fun e' w' => e' = .returned (.agg #[.complex .f64 e f, .float .f64 i]) ∧ Below w.heap.size w w') := by
  refine ⟨_, _, _, ⟨rfl, rfl, rfl⟩, (discSub_w _ _ _ _ _ _ _ _ _ ?_)⟩
  rcases disc_cases a b r ha hb hr with ⟨x, y, t, g⟩ | g | g
  · rcases h with h | h
    · exact (h.not_fin g).elim
    · exact combine_n2_w _ _ _ _ _ _ _ _ _ _ _ (hasNone_fin g) (hasNone_yes ha2 hb2 h) pnoDisc
  · rcases h with h | h
    · exact (h.not_all g).elim
    · exact combine_n2_w _ _ _ _ _ _ _ _ _ _ _ (hasNone_all g) (hasNone_yes ha2 hb2 h) pnoDisc
  · exact combine_n1_w _ _ _ _ _ _ _ _ _ _ _ (hasNone_yes ha hb g) pnoDisc
theorem pdiscSub_all1 {a b r a2 b2 r2 : Nat} (h : Key r INF) (h2 : (∃ x y t, DFin a2 b2 r2 x y t) ∨ Key r2 INF) : ∃ e f i, AllD e f i ∧ (∀ w, Calls Tryz.prog 90 #[.agg #[.complex .f64 a b, .float .f64 r], .agg #[.complex .f64 a2 b2, .float .f64 r2]] w fun e' w' => e' = .returned (.agg #[.complex .f64 e f, .float .f64 i]) ∧ Below w.heap.size w w') := by
  refine ⟨_, _, _, ⟨rfl, rfl, rfl⟩, (discSub_w _ _ _ _ _ _ _ _ _ ?_)⟩
  rcases h2 with ⟨x, y, t, g⟩ | g
  · exact combine_a1_w _ _ _ _ _ _ _ _ _ _ _ (hasNone_all h) (hasNone_fin g) (hasAll_yes h) pallDisc
  · exact combine_a1_w _ _ _ _ _ _ _ _ _ _ _ (hasNone_all h) (hasNone_all g) (hasAll_yes h) pallDisc
theorem pdiscSub_all2 {a b r a2 b2 r2 : Nat} {x y t : Int} (h : DFin a b r x y t) (h2 : Key r2 INF) : ∃ e f i, AllD e f i ∧ (∀ w, Calls Tryz.prog 90 #[.agg #[.complex .f64 a b, .float .f64 r], .agg #[.complex .f64 a2 b2, .float .f64 r2]] w fun e' w' => e' = .returned (.agg #[.complex .f64 e f, .float .f64 i]) ∧ Below w.heap.size w w') :=
  ⟨_, _, _, ⟨rfl, rfl, rfl⟩, (discSub_w _ _ _ _ _ _ _ _ _ (combine_a2_w _ _ _ _ _ _ _ _ _ _ _ (hasNone_fin h) (hasNone_all h2) (hasAll_no h.kr (by have := h.r1; omega)) (hasAll_yes h2) pallDisc))⟩
theorem pdiscMul_no {a b r a2 b2 r2 : Nat} (ha : a < 18446744073709551616) (hb : b < 18446744073709551616) (ha2 : a2 < 18446744073709551616) (hb2 : b2 < 18446744073709551616) (hr : r < 18446744073709551616) (_hr2 : r2 < 18446744073709551616) (h : DNo a b r ∨ DNo a2 b2 r2) : ∃ e f i, NoD e f i ∧ (∀ w, Calls Tryz.prog 91 #[.agg #[.complex .f64 a b, .float .f64 r], .agg #[.complex .f64 a2 b2, .float .f64 r2]] w fun e' w' => e' = .returned (.agg #[.complex .f64 e f, .float .f64 i]) ∧ Below w.heap.size w w') := by
  refine ⟨_, _, _, ⟨rfl, rfl, rfl⟩, (discMul_w _ _ _ _ _ _ _ _ _ ?_)⟩
  rcases disc_cases a b r ha hb hr with ⟨x, y, t, g⟩ | g | g
  · rcases h with h | h
    · exact (h.not_fin g).elim
    · exact combine_n2_w _ _ _ _ _ _ _ _ _ _ _ (hasNone_fin g) (hasNone_yes ha2 hb2 h) pnoDisc
  · rcases h with h | h
    · exact (h.not_all g).elim
    · exact combine_n2_w _ _ _ _ _ _ _ _ _ _ _ (hasNone_all g) (hasNone_yes ha2 hb2 h) pnoDisc
  · exact combine_n1_w _ _ _ _ _ _ _ _ _ _ _ (hasNone_yes ha hb g) pnoDisc
theorem pdiscMul_all1 {a b r a2 b2 r2 : Nat} (h : Key r INF) (h2 : (∃ x y t, DFin a2 b2 r2 x y t) ∨ Key r2 INF) : ∃ e f i, AllD e f i ∧ (∀ w, Calls Tryz.prog 91 #[.agg #[.complex .f64 a b, .float .f64 r], .agg #[.complex .f64 a2 b2, .float .f64 r2]] w fun e' w' => e' = .returned (.agg #[.complex .f64 e f, .float .f64 i]) ∧ Below w.heap.size w w') := by
  refine ⟨_, _, _, ⟨rfl, rfl, rfl⟩, (discMul_w _ _ _ _ _ _ _ _ _ ?_)⟩
  rcases h2 with ⟨x, y, t, g⟩ | g
  · exact combine_a1_w _ _ _ _ _ _ _ _ _ _ _ (hasNone_all h) (hasNone_fin g) (hasAll_yes h) pallDisc
  · exact combine_a1_w _ _ _ _ _ _ _ _ _ _ _ (hasNone_all h) (hasNone_all g) (hasAll_yes h) pallDisc
theorem pdiscMul_all2 {a b r a2 b2 r2 : Nat} {x y t : Int} (h : DFin a b r x y t) (h2 : Key r2 INF) : ∃ e f i, AllD e f i ∧ (∀ w, Calls Tryz.prog 91 #[.agg #[.complex .f64 a b, .float .f64 r], .agg #[.complex .f64 a2 b2, .float .f64 r2]] w fun e' w' => e' = .returned (.agg #[.complex .f64 e f, .float .f64 i]) ∧ Below w.heap.size w w') :=
  ⟨_, _, _, ⟨rfl, rfl, rfl⟩, (discMul_w _ _ _ _ _ _ _ _ _ (combine_a2_w _ _ _ _ _ _ _ _ _ _ _ (hasNone_fin h) (hasNone_all h2) (hasAll_no h.kr (by have := h.r1; omega)) (hasAll_yes h2) pallDisc))⟩
theorem pdiscAdd_fin (F : Ops) {a b r a2 b2 r2 : Nat} {x y t x2 y2 t2 : Int} (h : DFin a b r x y t) (g : DFin a2 b2 r2 x2 y2 t2) : ∃ e f i, (∀ w, Calls Tryz.prog 89 #[.agg #[.complex .f64 a b, .float .f64 r], .agg #[.complex .f64 a2 b2, .float .f64 r2]] w fun e' w' => e' = .returned (.agg #[.complex .f64 e f, .float .f64 i]) ∧ Below w.heap.size w w') ∧
    (AllD e f i ∧ (Ovr F (F.aD x x2) (F.aU x x2) (F.aD y y2) (F.aU y y2) (F.aU t t2)) ∨ ∃ u v c, Ard F (F.aD x x2) (F.aU x x2) (F.aD y y2) (F.aU y y2) u v c ∧ F.aU c (F.aU t t2) < INF ∧ e = B u ∧ f = B v ∧ i = B (F.aU c (F.aU t t2))) := by
  have i1 : Iv a a x x := ⟨h.ka, h.ka, Int.le_refl _, h.fa.2, h.fa.1⟩
  have i2 : Iv b b y y := ⟨h.kb, h.kb, Int.le_refl _, h.fb.2, h.fb.1⟩
  have j1 : Iv a2 a2 x2 x2 := ⟨g.ka, g.ka, Int.le_refl _, g.fa.2, g.fa.1⟩
  have j2 : Iv b2 b2 y2 y2 := ⟨g.kb, g.kb, Int.le_refl _, g.fb.2, g.fb.1⟩
  have r1 := h.r1
  have r2' := g.r1
  have rd := radOfSums_w a b r a2 b2 r2 _ (paddUp F h.kr g.kr)
  obtain ⟨e, f, i, c, q⟩ := paround F (padd_iv F i1 j1).x (padd_iv F i1 j1).y (padd_iv F i2 j2).x (padd_iv F i2 j2).y (Key.at (F.add_pl h.kr.pl g.kr.pl).2) (F.aU_nn h.kr.pl g.kr.pl h.r0 g.r0)
  refine ⟨e, f, i, (discAdd_w _ _ _ _ _ _ _ _ _ (combineAdd_w a b r a2 b2 r2 e f i _ _ _ _ _ _ _ _ _ _ _ _ _ (hasNone_fin h) (hasNone_fin g) (hasAll_no h.kr (by omega)) (hasAll_no g.kr (by omega)) (point_w a b) (point_w a2 b2) (pboxAdd_ok F i1 i2 j1 j2) rd c)), ?_⟩
  rcases q with q | ⟨u, v, c, q⟩
  · exact .inl q
  · exact .inr ⟨u, v, c, q⟩
theorem pdiscSub_fin (F : Ops) {a b r a2 b2 r2 : Nat} {x y t x2 y2 t2 : Int} (h : DFin a b r x y t) (g : DFin a2 b2 r2 x2 y2 t2) : ∃ e f i, (∀ w, Calls Tryz.prog 90 #[.agg #[.complex .f64 a b, .float .f64 r], .agg #[.complex .f64 a2 b2, .float .f64 r2]] w fun e' w' => e' = .returned (.agg #[.complex .f64 e f, .float .f64 i]) ∧ Below w.heap.size w w') ∧
    (AllD e f i ∧ (Ovr F (F.aD x (-x2)) (F.aU x (-x2)) (F.aD y (-y2)) (F.aU y (-y2)) (F.aU t t2)) ∨ ∃ u v c, Ard F (F.aD x (-x2)) (F.aU x (-x2)) (F.aD y (-y2)) (F.aU y (-y2)) u v c ∧ F.aU c (F.aU t t2) < INF ∧ e = B u ∧ f = B v ∧ i = B (F.aU c (F.aU t t2))) := by
  have i1 : Iv a a x x := ⟨h.ka, h.ka, Int.le_refl _, h.fa.2, h.fa.1⟩
  have i2 : Iv b b y y := ⟨h.kb, h.kb, Int.le_refl _, h.fb.2, h.fb.1⟩
  have j1 : Iv a2 a2 x2 x2 := ⟨g.ka, g.ka, Int.le_refl _, g.fa.2, g.fa.1⟩
  have j2 : Iv b2 b2 y2 y2 := ⟨g.kb, g.kb, Int.le_refl _, g.fb.2, g.fb.1⟩
  have r1 := h.r1
  have r2' := g.r1
  have rd := radOfSums_w a b r a2 b2 r2 _ (paddUp F h.kr g.kr)
  obtain ⟨e, f, i, c, q⟩ := paround F (padd_iv F i1 j1.neg).x (padd_iv F i1 j1.neg).y (padd_iv F i2 j2.neg).x (padd_iv F i2 j2.neg).y (Key.at (F.add_pl h.kr.pl g.kr.pl).2) (F.aU_nn h.kr.pl g.kr.pl h.r0 g.r0)
  refine ⟨e, f, i, (discSub_w _ _ _ _ _ _ _ _ _ (combineSub_w a b r a2 b2 r2 e f i _ _ _ _ _ _ _ _ _ _ _ _ _ (hasNone_fin h) (hasNone_fin g) (hasAll_no h.kr (by omega)) (hasAll_no g.kr (by omega)) (point_w a b) (point_w a2 b2) (pboxSub_ok F i1 i2 j1 j2) rd c)), ?_⟩
  rcases q with q | ⟨u, v, c, q⟩
  · exact .inl q
  · exact .inr ⟨u, v, c, q⟩
theorem pdiscMul_fin (F : Ops) {a b r a2 b2 r2 : Nat} {x y t x2 y2 t2 : Int} (h : DFin a b r x y t) (g : DFin a2 b2 r2 x2 y2 t2) : ∃ e f i, (∀ w, Calls Tryz.prog 91 #[.agg #[.complex .f64 a b, .float .f64 r], .agg #[.complex .f64 a2 b2, .float .f64 r2]] w fun e' w' => e' = .returned (.agg #[.complex .f64 e f, .float .f64 i]) ∧ Below w.heap.size w w') ∧
    (AllD e f i ∧ (∃ q1 q2, LenOk F x y q1 ∧ LenOk F x2 y2 q2 ∧ Ovr F (F.aD (F.pLo x x x2 x2) (-(F.pHi y y y2 y2))) (F.aU (F.pHi x x x2 x2) (-(F.pLo y y y2 y2))) (F.aD (F.pLo x x y2 y2) (F.pLo y y x2 x2)) (F.aU (F.pHi x x y2 y2) (F.pHi y y x2 x2)) (F.aU (F.aU (F.mU q1 t2) (F.mU q2 t)) (F.mU t t2))) ∨ ∃ q1 q2, LenOk F x y q1 ∧ LenOk F x2 y2 q2 ∧ ∃ u v c, Ard F (F.aD (F.pLo x x x2 x2) (-(F.pHi y y y2 y2))) (F.aU (F.pHi x x x2 x2) (-(F.pLo y y y2 y2))) (F.aD (F.pLo x x y2 y2) (F.pLo y y x2 x2)) (F.aU (F.pHi x x y2 y2) (F.pHi y y x2 x2)) u v c ∧ F.aU c (F.aU (F.aU (F.mU q1 t2) (F.mU q2 t)) (F.mU t t2)) < INF ∧ e = B u ∧ f = B v ∧ i = B (F.aU c (F.aU (F.aU (F.mU q1 t2) (F.mU q2 t)) (F.mU t t2)))) := by
  have i1 : Iv a a x x := ⟨h.ka, h.ka, Int.le_refl _, h.fa.2, h.fa.1⟩
  have i2 : Iv b b y y := ⟨h.kb, h.kb, Int.le_refl _, h.fb.2, h.fb.1⟩
  have j1 : Iv a2 a2 x2 x2 := ⟨g.ka, g.ka, Int.le_refl _, g.fa.2, g.fa.1⟩
  have j2 : Iv b2 b2 y2 y2 := ⟨g.kb, g.kb, Int.le_refl _, g.fb.2, g.fb.1⟩
  have r1 := h.r1
  have r2' := g.r1
  obtain ⟨p1, q1, kp, lp, cp⟩ := plength F h.ka h.kb
  obtain ⟨p2, q2, kq, lq, cq⟩ := plength F g.ka g.kb
  have q10 := (lp.ge h.ka.pl h.kb.pl).2.1
  have q20 := (lq.ge g.ka.pl g.kb.pl).2.1
  have m1 := (F.mul_pl kp.pl g.kr.pl).2
  have m2 := (F.mul_pl kq.pl h.kr.pl).2
  have m3 := (F.mul_pl h.kr.pl g.kr.pl).2
  have z1 := (F.mul_pos kp.pl g.kr.pl q10 g.r0).2
  have z2 := (F.mul_pos kq.pl h.kr.pl q20 h.r0).2
  have z3 := (F.mul_pos h.kr.pl g.kr.pl h.r0 g.r0).2
  have a1 := (F.add_pl m1 m2).2
  have z4 := F.aU_nn m1 m2 z1 z2
  have rd := radOfProducts_w a b r a2 b2 r2 _ _ _ _ _ _ _ cp (pmulUp F kp g.kr) cq (pmulUp F kq h.kr) (paddUp F (Key.at m1) (Key.at m2)) (pmulUp F h.kr g.kr) (paddUp F (Key.at a1) (Key.at m3))
  obtain ⟨e, f, i, c, q⟩ := paround F (padd_iv F (pmul_iv F i1 j1) (pmul_iv F i2 j2).neg).x (padd_iv F (pmul_iv F i1 j1) (pmul_iv F i2 j2).neg).y (padd_iv F (pmul_iv F i1 j2) (pmul_iv F i2 j1)).x (padd_iv F (pmul_iv F i1 j2) (pmul_iv F i2 j1)).y (Key.at (F.add_pl a1 m3).2) (F.aU_nn a1 m3 z4 z3)
  refine ⟨e, f, i, (discMul_w _ _ _ _ _ _ _ _ _ (combineMul_w a b r a2 b2 r2 e f i _ _ _ _ _ _ _ _ _ _ _ _ _ (hasNone_fin h) (hasNone_fin g) (hasAll_no h.kr (by omega)) (hasAll_no g.kr (by omega)) (point_w a b) (point_w a2 b2) (pboxMul_ok F i1 i2 j1 j2) rd c)), ?_⟩
  rcases q with q | ⟨u, v, c, q⟩
  · exact .inl ⟨q.1, q1, q2, lp, lq, q.2⟩
  · exact .inr ⟨q1, q2, lp, lq, u, v, c, q⟩
theorem ptoBox_no {a b r : Nat} (ha : a < 18446744073709551616) (hb : b < 18446744073709551616) (h : DNo a b r) : (∀ w, Calls Tryz.prog 84 #[.agg #[.complex .f64 a b, .float .f64 r]] w fun e' w' => e' = .returned (.agg #[.float .f64 (B INF), .float .f64 (B (-INF)), .float .f64 (B INF), .float .f64 (B (-INF))]) ∧ Below w.heap.size w w') :=
  (toBox_n_w _ _ _ _ _ _ _ (hasNone_yes ha hb h) pnoBox)
theorem ptoBox_all {a b r : Nat} (h : Key r INF) : (∀ w, Calls Tryz.prog 84 #[.agg #[.complex .f64 a b, .float .f64 r]] w fun e' w' => e' = .returned (.agg #[.float .f64 (B (-INF)), .float .f64 (B INF), .float .f64 (B (-INF)), .float .f64 (B INF)]) ∧ Below w.heap.size w w') :=
  (toBox_a_w _ _ _ _ _ _ _ (hasNone_all h) (hasAll_yes h) (allBox_w _ _ pall))
theorem ptoBox_fin (F : Ops) {a b r : Nat} {x y t : Int} (h : DFin a b r x y t) : (∀ w, Calls Tryz.prog 84 #[.agg #[.complex .f64 a b, .float .f64 r]] w fun e' w' => e' = .returned (.agg #[.float .f64 (B (F.aD x (-t))), .float .f64 (B (F.aU x t)), .float .f64 (B (F.aD y (-t))), .float .f64 (B (F.aU y t))]) ∧ Below w.heap.size w w') := by
  have i1 : Iv a a x x := ⟨h.ka, h.ka, Int.le_refl _, h.fa.2, h.fa.1⟩
  have i2 : Iv b b y y := ⟨h.kb, h.kb, Int.le_refl _, h.fb.2, h.fb.1⟩
  have r0 := h.r0
  have r1 := h.r1
  obtain ⟨n, n1, n2⟩ := h.kr.neg
  have j : Iv n r (-t) t := ⟨n2, h.kr, by omega, by omega, by omega⟩
  exact (toBox_w a b r _ _ _ _ _ _ _ _ _ _ _ _ (hasNone_fin h) (hasAll_no h.kr (by omega)) (point_w a b) (square_w r n n1) (pboxAdd_ok F i1 i2 j j))
theorem ptoDisc_no {X1 X2 X3 X4 : Nat} (h1 : X1 < 18446744073709551616) (h2 : X2 < 18446744073709551616) (h3 : X3 < 18446744073709551616) (h4 : X4 < 18446744073709551616) (h : NoBx X1 X2 X3 X4) : ∃ e f i, NoD e f i ∧ (∀ w, Calls Tryz.prog 88 #[.agg #[.float .f64 X1, .float .f64 X2, .float .f64 X3, .float .f64 X4]] w fun e' w' => e' = .returned (.agg #[.complex .f64 e f, .float .f64 i]) ∧ Below w.heap.size w w') := by
  refine ⟨_, _, _, ⟨rfl, rfl, rfl⟩, ?_⟩
  rcases Iv.or X1 X2 with ⟨k, l, g⟩ | g
  · rcases h with h | h
    · exact absurd g (h k l)
    · exact toDisc_2_w _ _ _ _ _ _ _ (none_no g) (none_yes h h3 h4) pnoDisc
  · exact toDisc_1_w _ _ _ _ _ _ _ (none_yes g h1 h2) pnoDisc
theorem ptoDisc_some (F : Ops) {X1 X2 X3 X4 : Nat} {k l m n : Int} (h : Iv X1 X2 k l) (g : Iv X3 X4 m n) : ∃ e f i, (∀ w, Calls Tryz.prog 88 #[.agg #[.float .f64 X1, .float .f64 X2, .float .f64 X3, .float .f64 X4]] w fun e' w' => e' = .returned (.agg #[.complex .f64 e f, .float .f64 i]) ∧ Below w.heap.size w w') ∧
    (AllD e f i ∧ Ovr F k l m n 0 ∨ ∃ u v c, Ard F k l m n u v c ∧ F.aU c 0 < INF ∧ e = B u ∧ f = B v ∧ i = B (F.aU c 0)) := by
  obtain ⟨e, f, i, c, q⟩ := paround F h.x h.y g.x g.y Key.zero (Int.le_refl _)
  exact ⟨e, f, i, (toDisc_w _ _ _ _ _ _ _ (none_no h) (none_no g) c), q⟩
end Go.Proofs.YtacnclofbnafiabGreatDoor

namespace Go.Proofs.YtacnclofbnafiabGreatDoor
open Go.RowKit Fl

theorem padd_part (F : Ops) {X1 X2 Y1 Y2 : Nat} (hX1 : X1 < 18446744073709551616) (hX2 : X2 < 18446744073709551616) (hY1 : Y1 < 18446744073709551616) (hY2 : Y2 < 18446744073709551616) : ∃ a b, (NoIv X1 X2 ∨ NoIv Y1 Y2 → NoIv a b) ∧ a < 18446744073709551616 ∧ b < 18446744073709551616 ∧ ∀ w, Calls Tryz.prog 118 #[.agg #[.float .f64 X1, .float .f64 X2], .agg #[.float .f64 Y1, .float .f64 Y2]] w fun e w' => e = .returned (.agg #[.float .f64 a, .float .f64 b]) ∧ Below w.heap.size w w' := by
  by_cases h : NoIv X1 X2 ∨ NoIv Y1 Y2
  · exact ⟨_, _, fun _ => emp_no, emp1, emp2, padd_no hX1 hX2 hY1 hY2 h⟩
  · rcases Iv.or X1 X2 with ⟨k, l, g⟩ | g
    · rcases Iv.or Y1 Y2 with ⟨k', l', g'⟩ | g'
      · exact ⟨_, _, fun c => absurd c h, (padd_iv F g g').x.lt, (padd_iv F g g').y.lt, padd_ok F g g'⟩
      · exact absurd (.inr g') h
    · exact absurd (.inl g) h
theorem psub_part (F : Ops) {X1 X2 Y1 Y2 : Nat} (hX1 : X1 < 18446744073709551616) (hX2 : X2 < 18446744073709551616) (hY1 : Y1 < 18446744073709551616) (hY2 : Y2 < 18446744073709551616) : ∃ a b, (NoIv X1 X2 ∨ NoIv Y1 Y2 → NoIv a b) ∧ a < 18446744073709551616 ∧ b < 18446744073709551616 ∧ ∀ w, Calls Tryz.prog 119 #[.agg #[.float .f64 X1, .float .f64 X2], .agg #[.float .f64 Y1, .float .f64 Y2]] w fun e w' => e = .returned (.agg #[.float .f64 a, .float .f64 b]) ∧ Below w.heap.size w w' := by
  by_cases h : NoIv X1 X2 ∨ NoIv Y1 Y2
  · exact ⟨_, _, fun _ => emp_no, emp1, emp2, psub_no hX1 hX2 hY1 hY2 h⟩
  · rcases Iv.or X1 X2 with ⟨k, l, g⟩ | g
    · rcases Iv.or Y1 Y2 with ⟨k', l', g'⟩ | g'
      · exact ⟨_, _, fun c => absurd c h, (padd_iv F g g'.neg).x.lt, (padd_iv F g g'.neg).y.lt, psub_ok F g g'⟩
      · exact absurd (.inr g') h
    · exact absurd (.inl g) h
theorem pmul_part (F : Ops) {X1 X2 Y1 Y2 : Nat} (hX1 : X1 < 18446744073709551616) (hX2 : X2 < 18446744073709551616) (hY1 : Y1 < 18446744073709551616) (hY2 : Y2 < 18446744073709551616) : ∃ a b, (NoIv X1 X2 ∨ NoIv Y1 Y2 → NoIv a b) ∧ a < 18446744073709551616 ∧ b < 18446744073709551616 ∧ ∀ w, Calls Tryz.prog 120 #[.agg #[.float .f64 X1, .float .f64 X2], .agg #[.float .f64 Y1, .float .f64 Y2]] w fun e w' => e = .returned (.agg #[.float .f64 a, .float .f64 b]) ∧ Below w.heap.size w w' := by
  by_cases h : NoIv X1 X2 ∨ NoIv Y1 Y2
  · exact ⟨_, _, fun _ => emp_no, emp1, emp2, pmul_no hX1 hX2 hY1 hY2 h⟩
  · rcases Iv.or X1 X2 with ⟨k, l, g⟩ | g
    · rcases Iv.or Y1 Y2 with ⟨k', l', g'⟩ | g'
      · exact ⟨_, _, fun c => absurd c h, (pmul_iv F g g').x.lt, (pmul_iv F g g').y.lt, pmul_ok F g g'⟩
      · exact absurd (.inr g') h
    · exact absurd (.inl g) h
theorem pboxAdd_no (F : Ops) {X1 X2 X3 X4 Y1 Y2 Y3 Y4 : Nat} (hX1 : X1 < 18446744073709551616) (hX2 : X2 < 18446744073709551616) (hX3 : X3 < 18446744073709551616) (hX4 : X4 < 18446744073709551616) (hY1 : Y1 < 18446744073709551616) (hY2 : Y2 < 18446744073709551616) (hY3 : Y3 < 18446744073709551616) (hY4 : Y4 < 18446744073709551616) (h : NoBx X1 X2 X3 X4 ∨ NoBx Y1 Y2 Y3 Y4) : ∀ w, Calls Tryz.prog 85 #[.agg #[.float .f64 X1, .float .f64 X2, .float .f64 X3, .float .f64 X4], .agg #[.float .f64 Y1, .float .f64 Y2, .float .f64 Y3, .float .f64 Y4]] w fun e w' => e = .returned (.agg #[.float .f64 (B INF), .float .f64 (B (-INF)), .float .f64 (B INF), .float .f64 (B (-INF))]) ∧ Below w.heap.size w w' := by
  obtain ⟨a, b, n1, a1, b1, c1⟩ := padd_part F hX1 hX2 hY1 hY2
  obtain ⟨c, d, n2, a2, b2, c2⟩ := padd_part F hX3 hX4 hY3 hY4
  refine boxAdd_w X1 X2 X3 X4 Y1 Y2 Y3 Y4 _ _ _ _ _ _ _ _ c1 c2 (pboxOf_no a1 b1 a2 b2 ?_)
  rcases h with (h | h) | (h | h)
  · exact .inl (n1 (.inl h))
  · exact .inr (n2 (.inl h))
  · exact .inl (n1 (.inr h))
  · exact .inr (n2 (.inr h))
theorem pboxSub_no (F : Ops) {X1 X2 X3 X4 Y1 Y2 Y3 Y4 : Nat} (hX1 : X1 < 18446744073709551616) (hX2 : X2 < 18446744073709551616) (hX3 : X3 < 18446744073709551616) (hX4 : X4 < 18446744073709551616) (hY1 : Y1 < 18446744073709551616) (hY2 : Y2 < 18446744073709551616) (hY3 : Y3 < 18446744073709551616) (hY4 : Y4 < 18446744073709551616) (h : NoBx X1 X2 X3 X4 ∨ NoBx Y1 Y2 Y3 Y4) : ∀ w, Calls Tryz.prog 86 #[.agg #[.float .f64 X1, .float .f64 X2, .float .f64 X3, .float .f64 X4], .agg #[.float .f64 Y1, .float .f64 Y2, .float .f64 Y3, .float .f64 Y4]] w fun e w' => e = .returned (.agg #[.float .f64 (B INF), .float .f64 (B (-INF)), .float .f64 (B INF), .float .f64 (B (-INF))]) ∧ Below w.heap.size w w' := by
  obtain ⟨a, b, n1, a1, b1, c1⟩ := psub_part F hX1 hX2 hY1 hY2
  obtain ⟨c, d, n2, a2, b2, c2⟩ := psub_part F hX3 hX4 hY3 hY4
  refine boxSub_w X1 X2 X3 X4 Y1 Y2 Y3 Y4 _ _ _ _ _ _ _ _ c1 c2 (pboxOf_no a1 b1 a2 b2 ?_)
  rcases h with (h | h) | (h | h)
  · exact .inl (n1 (.inl h))
  · exact .inr (n2 (.inl h))
  · exact .inl (n1 (.inr h))
  · exact .inr (n2 (.inr h))
theorem pboxMul_no (F : Ops) {X1 X2 X3 X4 Y1 Y2 Y3 Y4 : Nat} (hX1 : X1 < 18446744073709551616) (hX2 : X2 < 18446744073709551616) (hX3 : X3 < 18446744073709551616) (hX4 : X4 < 18446744073709551616) (hY1 : Y1 < 18446744073709551616) (hY2 : Y2 < 18446744073709551616) (hY3 : Y3 < 18446744073709551616) (hY4 : Y4 < 18446744073709551616) (h : NoBx X1 X2 X3 X4 ∨ NoBx Y1 Y2 Y3 Y4) : ∀ w, Calls Tryz.prog 87 #[.agg #[.float .f64 X1, .float .f64 X2, .float .f64 X3, .float .f64 X4], .agg #[.float .f64 Y1, .float .f64 Y2, .float .f64 Y3, .float .f64 Y4]] w fun e w' => e = .returned (.agg #[.float .f64 (B INF), .float .f64 (B (-INF)), .float .f64 (B INF), .float .f64 (B (-INF))]) ∧ Below w.heap.size w w' := by
  obtain ⟨a, b, n1, a1, b1, c1⟩ := pmul_part F hX1 hX2 hY1 hY2
  obtain ⟨c, d, n2, a2, b2, c2⟩ := pmul_part F hX3 hX4 hY3 hY4
  obtain ⟨p, q, n3, a3, b3, c3⟩ := pmul_part F hX1 hX2 hY3 hY4
  obtain ⟨r, s, n4, a4, b4, c4⟩ := pmul_part F hX3 hX4 hY1 hY2
  obtain ⟨t, u, n5, a5, b5, c5⟩ := psub_part F a1 b1 a2 b2
  obtain ⟨x, y, n6, a6, b6, c6⟩ := padd_part F a3 b3 a4 b4
  refine boxMul_w X1 X2 X3 X4 Y1 Y2 Y3 Y4 _ _ _ _ _ _ _ _ _ _ _ _ _ _ _ _ c1 c2 c3 c4 c5 c6 (pboxOf_no a5 b5 a6 b6 (.inl (n5 ?_)))
  rcases h with (h | h) | (h | h)
  · exact .inl (n1 (.inl h))
  · exact .inr (n2 (.inl h))
  · exact .inl (n1 (.inr h))
  · exact .inr (n2 (.inr h))
end Go.Proofs.YtacnclofbnafiabGreatDoor

namespace Go.Proofs.YtacnclofbnafiabGreatDoor
open Go.RowKit Fl

def W64 (x : Nat) : Prop := x < 18446744073709551616
theorem w64_B {k : Int} (h : Pl k) : W64 (B k) := (Key.at h).lt
theorem w64_inf : W64 (B INF) := w64_B pl_inf
theorem w64_ninf : W64 (B (-INF)) := w64_B pl_ninf
theorem rp_key {x : Nat} {k : Int} (h : Key x k) : ∀ w, Calls Tryz.prog 136 #[.float .f64 x] w fun e w' => e = .returned (.float .f64 (B k)) ∧ Below w.heap.size w w' := fun w => by
  obtain ⟨s, r, rfl, hr, rfl⟩ := h
  rw [B_ix]
  exact (plain_any s r (fin_lt hr) w).mono fun _ _ ⟨e, q⟩ => ⟨e, q ▸ Below.refl _ _⟩
/-- What a call of two boxes answers, whatever they are. -/
def TotB2 (f : FuncId) : Prop := ∀ X1 X2 X3 X4 Y1 Y2 Y3 Y4 : Nat, W64 X1 → W64 X2 → W64 X3 → W64 X4 → W64 Y1 → W64 Y2 → W64 Y3 → W64 Y4 → ∃ e1 e2 e3 e4, W64 e1 ∧ W64 e2 ∧ W64 e3 ∧ W64 e4 ∧ ∀ w, Calls Tryz.prog f #[.agg #[.float .f64 X1, .float .f64 X2, .float .f64 X3, .float .f64 X4], .agg #[.float .f64 Y1, .float .f64 Y2, .float .f64 Y3, .float .f64 Y4]] w fun e w' => e = .returned (.agg #[.float .f64 e1, .float .f64 e2, .float .f64 e3, .float .f64 e4]) ∧ Below w.heap.size w w'
def TotB1 (f : FuncId) : Prop := ∀ X1 X2 X3 X4 : Nat, W64 X1 → W64 X2 → W64 X3 → W64 X4 → ∃ e1 e2 e3 e4, W64 e1 ∧ W64 e2 ∧ W64 e3 ∧ W64 e4 ∧ ∀ w, Calls Tryz.prog f #[.agg #[.float .f64 X1, .float .f64 X2, .float .f64 X3, .float .f64 X4]] w fun e w' => e = .returned (.agg #[.float .f64 e1, .float .f64 e2, .float .f64 e3, .float .f64 e4]) ∧ Below w.heap.size w w'
def TotD2 (f : FuncId) : Prop := ∀ a b r a2 b2 r2 : Nat, W64 a → W64 b → W64 r → W64 a2 → W64 b2 → W64 r2 → ∃ e1 e2 e3, W64 e1 ∧ W64 e2 ∧ W64 e3 ∧ ∀ w, Calls Tryz.prog f #[.agg #[.complex .f64 a b, .float .f64 r], .agg #[.complex .f64 a2 b2, .float .f64 r2]] w fun e w' => e = .returned (.agg #[.complex .f64 e1 e2, .float .f64 e3]) ∧ Below w.heap.size w w'
def TotD1 (f : FuncId) : Prop := ∀ a b r : Nat, W64 a → W64 b → W64 r → ∃ e1 e2 e3, W64 e1 ∧ W64 e2 ∧ W64 e3 ∧ ∀ w, Calls Tryz.prog f #[.agg #[.complex .f64 a b, .float .f64 r]] w fun e w' => e = .returned (.agg #[.complex .f64 e1 e2, .float .f64 e3]) ∧ Below w.heap.size w w'
theorem no_bx {X1 X2 X3 X4 Y1 Y2 Y3 Y4 : Nat} : (∃ k l m n k' l' m' n', Iv X1 X2 k l ∧ Iv X3 X4 m n ∧ Iv Y1 Y2 k' l' ∧ Iv Y3 Y4 m' n') ∨ (NoBx X1 X2 X3 X4 ∨ NoBx Y1 Y2 Y3 Y4) := by
  rcases Bx.or X1 X2 X3 X4 with ⟨k, l, m, n, g, g2⟩ | g
  · rcases Bx.or Y1 Y2 Y3 Y4 with ⟨k', l', m', n', h, h2⟩ | h
    · exact .inl ⟨k, l, m, n, k', l', m', n', g, g2, h, h2⟩
    · exact .inr (.inr h)
  · exact .inr (.inl g)
theorem boxAdd_tot (F : Ops) : TotB2 85 := fun X1 X2 X3 X4 Y1 Y2 Y3 Y4 h1 h2 h3 h4 g1 g2 g3 g4 => by
  rcases no_bx (X1 := X1) (X2 := X2) (X3 := X3) (X4 := X4) (Y1 := Y1) (Y2 := Y2) (Y3 := Y3) (Y4 := Y4) with ⟨k, l, m, n, k', l', m', n', a, b, c, d⟩ | h
  · have p := padd_iv F a c
    have q := padd_iv F b d
    exact ⟨_, _, _, _, p.x.lt, p.y.lt, q.x.lt, q.y.lt, pboxAdd_ok F a b c d⟩
  · exact ⟨_, _, _, _, w64_inf, w64_ninf, w64_inf, w64_ninf, pboxAdd_no F h1 h2 h3 h4 g1 g2 g3 g4 h⟩
theorem boxSub_tot (F : Ops) : TotB2 86 := fun X1 X2 X3 X4 Y1 Y2 Y3 Y4 h1 h2 h3 h4 g1 g2 g3 g4 => by
  rcases no_bx (X1 := X1) (X2 := X2) (X3 := X3) (X4 := X4) (Y1 := Y1) (Y2 := Y2) (Y3 := Y3) (Y4 := Y4) with ⟨k, l, m, n, k', l', m', n', a, b, c, d⟩ | h
  · have p := padd_iv F a c.neg
    have q := padd_iv F b d.neg
    exact ⟨_, _, _, _, p.x.lt, p.y.lt, q.x.lt, q.y.lt, pboxSub_ok F a b c d⟩
  · exact ⟨_, _, _, _, w64_inf, w64_ninf, w64_inf, w64_ninf, pboxSub_no F h1 h2 h3 h4 g1 g2 g3 g4 h⟩
theorem boxMul_tot (F : Ops) : TotB2 87 := fun X1 X2 X3 X4 Y1 Y2 Y3 Y4 h1 h2 h3 h4 g1 g2 g3 g4 => by
  rcases no_bx (X1 := X1) (X2 := X2) (X3 := X3) (X4 := X4) (Y1 := Y1) (Y2 := Y2) (Y3 := Y3) (Y4 := Y4) with ⟨k, l, m, n, k', l', m', n', a, b, c, d⟩ | h
  · have p := padd_iv F (pmul_iv F a c) (pmul_iv F b d).neg
    have q := padd_iv F (pmul_iv F a d) (pmul_iv F b c)
    exact ⟨_, _, _, _, p.x.lt, p.y.lt, q.x.lt, q.y.lt, pboxMul_ok F a b c d⟩
  · exact ⟨_, _, _, _, w64_inf, w64_ninf, w64_inf, w64_ninf, pboxMul_no F h1 h2 h3 h4 g1 g2 g3 g4 h⟩
theorem noiv_neg {k l : Int} (h : NoIv (B k) (B l)) (hk : Pl k) (hl : Pl l) : NoIv (B (-l)) (B (-k)) := fun k' l' g => by
  have e1 := g.x.unique (Key.at (pl_neg hl))
  have e2 := g.y.unique (Key.at (pl_neg hk))
  subst e1; subst e2
  have := g.le; have := g.lo; have := g.hi
  exact h k l ⟨Key.at hk, Key.at hl, by omega, by omega, by omega⟩
/-- Plain of 0 less an interval. -/
theorem conj_part {X3 X4 : Nat} (h3 : W64 X3) (h4 : W64 X4) : (∃ m n, Iv X3 X4 m n) ∨ NoIv X3 X4 ∧ ((∃ c0 d0, W64 c0 ∧ W64 d0 ∧ NoIv c0 d0 ∧ ∀ w, Calls Tryz.prog 134 #[.agg #[.float .f64 X3, .float .f64 X4]] w fun e w' => e = .returned (.agg #[.float .f64 c0, .float .f64 d0]) ∧ Below w.heap.size w w') ∨ NegNan X3 X4) := by
  rcases Iv.or X3 X4 with h | h
  · exact .inl h
  · refine .inr ⟨h, ?_⟩
    rcases word_cases X3 h3 with ⟨k, hk⟩ | hk
    · rcases word_cases X4 h4 with ⟨l, hl⟩ | hl
      · refine .inl ⟨_, _, w64_B (pl_neg hl.pl), w64_B (pl_neg hk.pl), ?_, pneg hk hl⟩
        refine noiv_neg ?_ hk.pl hl.pl
        intro k' l' g
        have e1 := g.x.unique (Key.at hk.pl)
        have e2 := g.y.unique (Key.at hl.pl)
        subst e1; subst e2
        exact h _ _ ⟨hk, hl, g.le, g.lo, g.hi⟩
      · exact .inr (neg_nan2 hk hl)
    · rcases word_cases X4 h4 with ⟨l, hl⟩ | hl
      · exact .inr (neg_nan1 hk hl)
      · exact .inr (neg_nan12 hk hl)
theorem boxConj_ok {X1 X2 X3 X4 : Nat} {k l m n : Int} (a : Iv X1 X2 k l) (b : Iv X3 X4 m n) : ∀ w, Calls Tryz.prog 94 #[.agg #[.float .f64 X1, .float .f64 X2, .float .f64 X3, .float .f64 X4]] w fun e w' => e = .returned (.agg #[.float .f64 (B k), .float .f64 (B l), .float .f64 (B (-n)), .float .f64 (B (-m))]) ∧ Below w.heap.size w w' := by
  have i1 : Iv (B k) (B l) k l := ⟨Key.at a.x.pl, Key.at a.y.pl, a.le, a.lo, a.hi⟩
  exact boxConj_w _ _ _ _ _ _ _ _ _ _ _ _ _ _ (pplain_ok a) (pneg b.x b.y) (pplain_ok b.neg) (pboxOf_ok i1 b.neg)
theorem emp_noiv : NoIv (B INF) (B (-INF)) := fun k l g => by
  have e1 := g.x.unique (Key.at pl_inf)
  have := g.lo
  omega
theorem boxConj_no {X1 X2 X3 X4 : Nat} (h1 : W64 X1) (h2 : W64 X2) (h3 : W64 X3) (h4 : W64 X4) (h : NoBx X1 X2 X3 X4) : ∀ w, Calls Tryz.prog 94 #[.agg #[.float .f64 X1, .float .f64 X2, .float .f64 X3, .float .f64 X4]] w fun e w' => e = .returned (.agg #[.float .f64 (B INF), .float .f64 (B (-INF)), .float .f64 (B INF), .float .f64 (B (-INF))]) ∧ Below w.heap.size w w' := by
  obtain ⟨a, b, wa, wb, na, pa⟩ : ∃ a b, W64 a ∧ W64 b ∧ (NoIv X1 X2 → NoIv a b) ∧ ∀ w, Calls Tryz.prog 133 #[.agg #[.float .f64 X1, .float .f64 X2]] w fun e w' => e = .returned (.agg #[.float .f64 a, .float .f64 b]) ∧ Below w.heap.size w w' := by
    rcases Iv.or X1 X2 with ⟨k, l, g⟩ | g
    · exact ⟨_, _, w64_B g.x.pl, w64_B g.y.pl, fun n => absurd g (n k l), pplain_ok g⟩
    · exact ⟨_, _, w64_inf, w64_ninf, fun _ => emp_noiv, pplain_no g h1 h2⟩
  rcases conj_part h3 h4 with ⟨m, n, g⟩ | ⟨g, ⟨c0, d0, wc, wd, nn, cn⟩ | g'⟩
  · have nb : NoIv a b := na (by
      rcases h with h | h
      · exact h
      · exact absurd g (h m n))
    exact boxConj_w _ _ _ _ _ _ _ _ _ _ _ _ _ _ pa (pneg g.x g.y) (pplain_ok g.neg) (pboxOf_no wa wb (w64_B g.neg.x.pl) (w64_B g.neg.y.pl) (.inl nb))
  · exact boxConj_w _ _ _ _ _ _ _ _ _ _ _ _ _ _ pa cn (pplain_no nn wc wd) (pboxOf_no wa wb w64_inf w64_ninf (.inr emp_noiv))
  · exact boxConj_nan_w _ _ _ _ _ _ _ _ _ _ _ _ pa g' (fun c0 d0 n0 hc hd => pplain_no n0 hc hd) (pboxOf_no wa wb w64_inf w64_ninf (.inr emp_noiv))
theorem boxConj_tot : TotB1 94 := fun X1 X2 X3 X4 h1 h2 h3 h4 => by
  rcases Bx.or X1 X2 X3 X4 with ⟨k, l, m, n, g, g2⟩ | g
  · exact ⟨_, _, _, _, w64_B g.x.pl, w64_B g.y.pl, w64_B (pl_neg g2.y.pl), w64_B (pl_neg g2.x.pl), boxConj_ok g g2⟩
  · exact ⟨_, _, _, _, w64_inf, w64_ninf, w64_inf, w64_ninf, boxConj_no h1 h2 h3 h4 g⟩
theorem w64_all {e f i : Nat} (h : AllD e f i) : W64 e ∧ W64 f ∧ W64 i := by
  obtain ⟨rfl, rfl, rfl⟩ := h
  exact ⟨by unfold W64; omega, by unfold W64; omega, w64_inf⟩
theorem w64_no {e f i : Nat} (h : NoD e f i) : W64 e ∧ W64 f ∧ W64 i := by
  obtain ⟨rfl, rfl, rfl⟩ := h
  exact ⟨by unfold W64; omega, by unfold W64; omega, by unfold W64; omega⟩
theorem discAdd_tot (F : Ops) : TotD2 89 := fun a b r a2 b2 r2 h1 h2 h3 g1 g2 g3 => by
  rcases disc_cases a b r h1 h2 h3 with ⟨x, y, t, h⟩ | h | h
  · rcases disc_cases a2 b2 r2 g1 g2 g3 with ⟨x2, y2, t2, g⟩ | g | g
    · obtain ⟨e, f, i, c, q⟩ := pdiscAdd_fin F h g
      rcases q with ⟨q, _⟩ | ⟨u, v, c, A, lt, rfl, rfl, rfl⟩
      · exact ⟨e, f, i, (w64_all q).1, (w64_all q).2.1, (w64_all q).2.2, c⟩
      · refine ⟨_, _, _, w64_B A.fu.pl, w64_B A.fv.pl, w64_B ?_, c⟩
        exact (F.add_pl (A.len.ge A.pl.1 A.pl.2).1 (F.add_pl h.kr.pl g.kr.pl).2).2
    · obtain ⟨e, f, i, q, c⟩ := pdiscAdd_all2 (a2 := a2) (b2 := b2) h g
      exact ⟨e, f, i, (w64_all q).1, (w64_all q).2.1, (w64_all q).2.2, c⟩
    · obtain ⟨e, f, i, q, c⟩ := pdiscAdd_no h1 h2 g1 g2 h3 g3 (.inr g)
      exact ⟨e, f, i, (w64_no q).1, (w64_no q).2.1, (w64_no q).2.2, c⟩
  · rcases disc_cases a2 b2 r2 g1 g2 g3 with g | g | g
    · obtain ⟨e, f, i, q, c⟩ := pdiscAdd_all1 (a := a) (b := b) h (.inl g)
      exact ⟨e, f, i, (w64_all q).1, (w64_all q).2.1, (w64_all q).2.2, c⟩
    · obtain ⟨e, f, i, q, c⟩ := pdiscAdd_all1 (a := a) (b := b) (a2 := a2) (b2 := b2) h (.inr g)
      exact ⟨e, f, i, (w64_all q).1, (w64_all q).2.1, (w64_all q).2.2, c⟩
    · obtain ⟨e, f, i, q, c⟩ := pdiscAdd_no h1 h2 g1 g2 h3 g3 (.inr g)
      exact ⟨e, f, i, (w64_no q).1, (w64_no q).2.1, (w64_no q).2.2, c⟩
  · obtain ⟨e, f, i, q, c⟩ := pdiscAdd_no h1 h2 g1 g2 h3 g3 (.inl h)
    exact ⟨e, f, i, (w64_no q).1, (w64_no q).2.1, (w64_no q).2.2, c⟩
theorem discSub_tot (F : Ops) : TotD2 90 := fun a b r a2 b2 r2 h1 h2 h3 g1 g2 g3 => by
  rcases disc_cases a b r h1 h2 h3 with ⟨x, y, t, h⟩ | h | h
  · rcases disc_cases a2 b2 r2 g1 g2 g3 with ⟨x2, y2, t2, g⟩ | g | g
    · obtain ⟨e, f, i, c, q⟩ := pdiscSub_fin F h g
      rcases q with ⟨q, _⟩ | ⟨u, v, c, A, lt, rfl, rfl, rfl⟩
      · exact ⟨e, f, i, (w64_all q).1, (w64_all q).2.1, (w64_all q).2.2, c⟩
      · refine ⟨_, _, _, w64_B A.fu.pl, w64_B A.fv.pl, w64_B ?_, c⟩
        exact (F.add_pl (A.len.ge A.pl.1 A.pl.2).1 (F.add_pl h.kr.pl g.kr.pl).2).2
    · obtain ⟨e, f, i, q, c⟩ := pdiscSub_all2 (a2 := a2) (b2 := b2) h g
      exact ⟨e, f, i, (w64_all q).1, (w64_all q).2.1, (w64_all q).2.2, c⟩
    · obtain ⟨e, f, i, q, c⟩ := pdiscSub_no h1 h2 g1 g2 h3 g3 (.inr g)
      exact ⟨e, f, i, (w64_no q).1, (w64_no q).2.1, (w64_no q).2.2, c⟩
  · rcases disc_cases a2 b2 r2 g1 g2 g3 with g | g | g
    · obtain ⟨e, f, i, q, c⟩ := pdiscSub_all1 (a := a) (b := b) h (.inl g)
      exact ⟨e, f, i, (w64_all q).1, (w64_all q).2.1, (w64_all q).2.2, c⟩
    · obtain ⟨e, f, i, q, c⟩ := pdiscSub_all1 (a := a) (b := b) (a2 := a2) (b2 := b2) h (.inr g)
      exact ⟨e, f, i, (w64_all q).1, (w64_all q).2.1, (w64_all q).2.2, c⟩
    · obtain ⟨e, f, i, q, c⟩ := pdiscSub_no h1 h2 g1 g2 h3 g3 (.inr g)
      exact ⟨e, f, i, (w64_no q).1, (w64_no q).2.1, (w64_no q).2.2, c⟩
  · obtain ⟨e, f, i, q, c⟩ := pdiscSub_no h1 h2 g1 g2 h3 g3 (.inl h)
    exact ⟨e, f, i, (w64_no q).1, (w64_no q).2.1, (w64_no q).2.2, c⟩
theorem discMul_tot (F : Ops) : TotD2 91 := fun a b r a2 b2 r2 h1 h2 h3 g1 g2 g3 => by
  rcases disc_cases a b r h1 h2 h3 with ⟨x, y, t, h⟩ | h | h
  · rcases disc_cases a2 b2 r2 g1 g2 g3 with ⟨x2, y2, t2, g⟩ | g | g
    · obtain ⟨e, f, i, c, q⟩ := pdiscMul_fin F h g
      rcases q with ⟨q, _⟩ | ⟨q1, q2, l1, l2, u, v, c, A, lt, rfl, rfl, rfl⟩
      · exact ⟨e, f, i, (w64_all q).1, (w64_all q).2.1, (w64_all q).2.2, c⟩
      · refine ⟨_, _, _, w64_B A.fu.pl, w64_B A.fv.pl, w64_B ?_, c⟩
        exact (F.add_pl (A.len.ge A.pl.1 A.pl.2).1 (F.add_pl (F.add_pl (F.mul_pl (l1.ge h.fa.pl h.fb.pl).1 g.kr.pl).2 (F.mul_pl (l2.ge g.fa.pl g.fb.pl).1 h.kr.pl).2).2 (F.mul_pl h.kr.pl g.kr.pl).2).2).2
    · obtain ⟨e, f, i, q, c⟩ := pdiscMul_all2 (a2 := a2) (b2 := b2) h g
      exact ⟨e, f, i, (w64_all q).1, (w64_all q).2.1, (w64_all q).2.2, c⟩
    · obtain ⟨e, f, i, q, c⟩ := pdiscMul_no h1 h2 g1 g2 h3 g3 (.inr g)
      exact ⟨e, f, i, (w64_no q).1, (w64_no q).2.1, (w64_no q).2.2, c⟩
  · rcases disc_cases a2 b2 r2 g1 g2 g3 with g | g | g
    · obtain ⟨e, f, i, q, c⟩ := pdiscMul_all1 (a := a) (b := b) h (.inl g)
      exact ⟨e, f, i, (w64_all q).1, (w64_all q).2.1, (w64_all q).2.2, c⟩
    · obtain ⟨e, f, i, q, c⟩ := pdiscMul_all1 (a := a) (b := b) (a2 := a2) (b2 := b2) h (.inr g)
      exact ⟨e, f, i, (w64_all q).1, (w64_all q).2.1, (w64_all q).2.2, c⟩
    · obtain ⟨e, f, i, q, c⟩ := pdiscMul_no h1 h2 g1 g2 h3 g3 (.inr g)
      exact ⟨e, f, i, (w64_no q).1, (w64_no q).2.1, (w64_no q).2.2, c⟩
  · obtain ⟨e, f, i, q, c⟩ := pdiscMul_no h1 h2 g1 g2 h3 g3 (.inl h)
    exact ⟨e, f, i, (w64_no q).1, (w64_no q).2.1, (w64_no q).2.2, c⟩
theorem toBox_tot (F : Ops) : ∀ a b r : Nat, W64 a → W64 b → W64 r → ∃ e1 e2 e3 e4, W64 e1 ∧ W64 e2 ∧ W64 e3 ∧ W64 e4 ∧ ∀ w, Calls Tryz.prog 84 #[.agg #[.complex .f64 a b, .float .f64 r]] w fun e w' => e = .returned (.agg #[.float .f64 e1, .float .f64 e2, .float .f64 e3, .float .f64 e4]) ∧ Below w.heap.size w w' := fun a b r h1 h2 h3 => by
  rcases disc_cases a b r h1 h2 h3 with ⟨x, y, t, h⟩ | h | h
  · have pt := pl_neg h.kr.pl
    exact ⟨_, _, _, _, w64_B (F.add_pl h.ka.pl pt).1, w64_B (F.add_pl h.ka.pl h.kr.pl).2, w64_B (F.add_pl h.kb.pl pt).1, w64_B (F.add_pl h.kb.pl h.kr.pl).2, ptoBox_fin F h⟩
  · exact ⟨_, _, _, _, w64_ninf, w64_inf, w64_ninf, w64_inf, ptoBox_all h⟩
  · exact ⟨_, _, _, _, w64_inf, w64_ninf, w64_inf, w64_ninf, ptoBox_no h1 h2 h⟩
theorem toDisc_tot (F : Ops) : ∀ X1 X2 X3 X4 : Nat, W64 X1 → W64 X2 → W64 X3 → W64 X4 → ∃ e1 e2 e3, W64 e1 ∧ W64 e2 ∧ W64 e3 ∧ ∀ w, Calls Tryz.prog 88 #[.agg #[.float .f64 X1, .float .f64 X2, .float .f64 X3, .float .f64 X4]] w fun e w' => e = .returned (.agg #[.complex .f64 e1 e2, .float .f64 e3]) ∧ Below w.heap.size w w' := fun X1 X2 X3 X4 h1 h2 h3 h4 => by
  rcases Bx.or X1 X2 X3 X4 with ⟨k, l, m, n, g, g2⟩ | g
  · obtain ⟨e, f, i, c, q⟩ := ptoDisc_some F g g2
    rcases q with ⟨q, _⟩ | ⟨u, v, c', A, lt, rfl, rfl, rfl⟩
    · exact ⟨e, f, i, (w64_all q).1, (w64_all q).2.1, (w64_all q).2.2, c⟩
    · exact ⟨_, _, _, w64_B A.fu.pl, w64_B A.fv.pl, w64_B (F.add_pl (A.len.ge A.pl.1 A.pl.2).1 pl_zero).2, c⟩
  · obtain ⟨e, f, i, q, c⟩ := ptoDisc_no h1 h2 h3 h4 g
    exact ⟨e, f, i, (w64_no q).1, (w64_no q).2.1, (w64_no q).2.2, c⟩
theorem discConj_fin {a b r : Nat} {x y t : Int} (h : DFin a b r x y t) : ∀ w, Calls Tryz.prog 95 #[.agg #[.complex .f64 a b, .float .f64 r]] w fun e w' => e = .returned (.agg #[.complex .f64 (B x) (B (-y)), .float .f64 (B t)]) ∧ Below w.heap.size w w' :=
  discConj_w _ _ _ _ _ _ (hasNone_fin h) (hasAll_no h.kr (by have := h.r1; omega)) (rp_key h.ka) h.kb.minus (rp_key h.kr)
theorem discConj_tot : TotD1 95 := fun a b r h1 h2 h3 => by
  rcases disc_cases a b r h1 h2 h3 with ⟨x, y, t, h⟩ | h | h
  · exact ⟨_, _, _, w64_B h.ka.pl, w64_B (pl_neg h.kb.pl), w64_B h.kr.pl, discConj_fin h⟩
  · exact ⟨0, 0, _, by unfold W64; omega, by unfold W64; omega, w64_inf, discConj_a_w _ _ _ _ _ _ (hasNone_all h) (hasAll_yes h) pallDisc⟩
  · exact ⟨0, 0, _, by unfold W64; omega, by unfold W64; omega, by unfold W64; omega, discConj_n_w _ _ _ _ _ _ (hasNone_yes h1 h2 h) pnoDisc⟩
end Go.Proofs.YtacnclofbnafiabGreatDoor
