import Derived.Test.YtacnclofbnafiabC2
namespace Go.Proofs.Ytacnclofbnafiab
open Go.RowKit Fl

set_option maxHeartbeats 2000000 in
theorem combineAdd_w (a b r c d s k1 k2 k3 t X1 X2 X3 X4 Y1 Y2 Y3 Y4 z1 z2 z3 z4 : Nat)
    (h1 : ∀ w, Calls Try.prog 39 #[.agg #[.complex .f64 a b, .float .f64 r]] w fun e w' => e = .returned (.bool false) ∧ Below w.heap.size w w')
    (h2 : ∀ w, Calls Try.prog 39 #[.agg #[.complex .f64 c d, .float .f64 s]] w fun e w' => e = .returned (.bool false) ∧ Below w.heap.size w w')
    (h3 : ∀ w, Calls Try.prog 41 #[.agg #[.complex .f64 a b, .float .f64 r]] w fun e w' => e = .returned (.bool false) ∧ Below w.heap.size w w')
    (h4 : ∀ w, Calls Try.prog 41 #[.agg #[.complex .f64 c d, .float .f64 s]] w fun e w' => e = .returned (.bool false) ∧ Below w.heap.size w w')
    (p1 : ∀ w, Calls Try.prog 44 #[.complex .f64 a b] w fun e w' => e = .returned (.agg #[.float .f64 X1, .float .f64 X2, .float .f64 X3, .float .f64 X4]) ∧ Below w.heap.size w w')
    (p2 : ∀ w, Calls Try.prog 44 #[.complex .f64 c d] w fun e w' => e = .returned (.agg #[.float .f64 Y1, .float .f64 Y2, .float .f64 Y3, .float .f64 Y4]) ∧ Below w.heap.size w w')
    (bo : ∀ w, Calls Try.prog 43 #[.agg #[.float .f64 X1, .float .f64 X2, .float .f64 X3, .float .f64 X4], .agg #[.float .f64 Y1, .float .f64 Y2, .float .f64 Y3, .float .f64 Y4]] w fun e w' => e = .returned (.agg #[.float .f64 z1, .float .f64 z2, .float .f64 z3, .float .f64 z4]) ∧ Below w.heap.size w w')
    (rd : ∀ w, Calls Try.prog 51 #[.agg #[.complex .f64 a b, .float .f64 r], .agg #[.complex .f64 c d, .float .f64 s]] w fun e w' => e = .returned (.float .f64 t) ∧ Below w.heap.size w w')
    (ar : ∀ w, Calls Try.prog 47 #[.agg #[.float .f64 z1, .float .f64 z2, .float .f64 z3, .float .f64 z4], .float .f64 t] w fun e w' => e = .returned (.agg #[.complex .f64 k1 k2, .float .f64 k3]) ∧ Below w.heap.size w w') (w : World) :
    Calls Try.prog 50 #[.agg #[.complex .f64 a b, .float .f64 r], .agg #[.complex .f64 c d, .float .f64 s], .func (.func 43) #[] #[], .func (.func 51) #[] #[]] w fun e w' => e = .returned (.agg #[.complex .f64 k1 k2, .float .f64 k3]) ∧ Below w.heap.size w w' := by
  go_enter Try.func50, Try.ntmps50
  go_wp2_with fail
  obtain ⟨w0, hw0⟩ : ∃ v, v = (((w.alloc (.cells #[.complex .f64 a b, .float .f64 r] 26)).alloc (.cells #[.complex .f64 c d, .float .f64 s] 26)).alloc (.cells #[.complex .f64 0 0, .float .f64 0] 26)) := ⟨_, rfl⟩
  rw [← hw0]
  have c00 : w0.cell? ⟨w.heap.size, 0, none⟩ = some (.complex .f64 a b) := by simp [hw0, go_sem]
  have c01 : w0.cell? ⟨w.heap.size, 1, none⟩ = some (.float .f64 r) := by simp [hw0, go_sem]
  have c10 : w0.cell? ⟨w.heap.size + 1, 0, none⟩ = some (.complex .f64 c d) := by simp [hw0, go_sem]
  have c11 : w0.cell? ⟨w.heap.size + 1, 1, none⟩ = some (.float .f64 s) := by simp [hw0, go_sem]
  have c20 : w0.cell? ⟨w.heap.size + 1 + 1, 0, none⟩ = some (.complex .f64 0 0) := by simp [hw0, go_sem]
  have fc20 : w0.frozen? ⟨w.heap.size + 1 + 1, 0, none⟩ = false := by simp [hw0, go_sem]
  have c21 : w0.cell? ⟨w.heap.size + 1 + 1, 1, none⟩ = some (.float .f64 0) := by simp [hw0, go_sem]
  have fc21 : w0.frozen? ⟨w.heap.size + 1 + 1, 1, none⟩ = false := by simp [hw0, go_sem]
  have s0 : w.heap.size + 1 + 1 + 1 ≤ w0.heap.size := by simp [hw0]
  have hB0 : Below w.heap.size w w0 := by
    rw [hw0]
    repeat (with_reducible first | exact Below.refl _ _ | assumption | refine Below.drew ?_ | refine bl_drewN ?_ _ | refine Below.setCell ?_ (by first | omega | (simp; done) | (simp; omega)) _ | refine Below.alloc ?_ (by first | omega | (simp; done) | (simp; omega)) _ | refine bl_next ?_ (by assumption) | refine bl_trans ?_ (by assumption) (by first | omega | (simp; done) | (simp; omega)))
  clear hw0
  go_at_call 39
  refine (h1 _).mono ?_
  rintro e w1 ⟨rfl, hb1⟩
  have s1 := hb1.size
  try simp at s1
  replace fc20 := bfroz2 hb1 c20 fc20
  replace fc21 := bfroz2 hb1 c21 fc21
  replace c00 := bkeep2 hb1 c00
  replace c01 := bkeep2 hb1 c01
  replace c10 := bkeep2 hb1 c10
  replace c11 := bkeep2 hb1 c11
  replace c20 := bkeep2 hb1 c20
  replace c21 := bkeep2 hb1 c21
  have l0 : w.heap.size < w1.heap.size := cell_lt c00
  have l1 : w.heap.size + 1 < w1.heap.size := cell_lt c10
  have l2 : w.heap.size + 1 + 1 < w1.heap.size := cell_lt c20
  go_wp2_with fail
  go_at_call 39
  refine (h2 _).mono ?_
  rintro e w2 ⟨rfl, hb2⟩
  have s2 := hb2.size
  try simp at s2
  replace fc20 := bfroz2 hb2 c20 fc20
  replace fc21 := bfroz2 hb2 c21 fc21
  replace c00 := bkeep2 hb2 c00
  replace c01 := bkeep2 hb2 c01
  replace c10 := bkeep2 hb2 c10
  replace c11 := bkeep2 hb2 c11
  replace c20 := bkeep2 hb2 c20
  replace c21 := bkeep2 hb2 c21
  have l0 : w.heap.size < w2.heap.size := cell_lt c00
  have l1 : w.heap.size + 1 < w2.heap.size := cell_lt c10
  have l2 : w.heap.size + 1 + 1 < w2.heap.size := cell_lt c20
  go_wp2_with fail
  go_at_call 41
  refine (h3 _).mono ?_
  rintro e w3 ⟨rfl, hb3⟩
  have s3 := hb3.size
  try simp at s3
  replace fc20 := bfroz2 hb3 c20 fc20
  replace fc21 := bfroz2 hb3 c21 fc21
  replace c00 := bkeep2 hb3 c00
  replace c01 := bkeep2 hb3 c01
  replace c10 := bkeep2 hb3 c10
  replace c11 := bkeep2 hb3 c11
  replace c20 := bkeep2 hb3 c20
  replace c21 := bkeep2 hb3 c21
  have l0 : w.heap.size < w3.heap.size := cell_lt c00
  have l1 : w.heap.size + 1 < w3.heap.size := cell_lt c10
  have l2 : w.heap.size + 1 + 1 < w3.heap.size := cell_lt c20
  go_wp2_with fail
  go_at_call 41
  refine (h4 _).mono ?_
  rintro e w4 ⟨rfl, hb4⟩
  have s4 := hb4.size
  try simp at s4
  replace fc20 := bfroz2 hb4 c20 fc20
  replace fc21 := bfroz2 hb4 c21 fc21
  replace c00 := bkeep2 hb4 c00
  replace c01 := bkeep2 hb4 c01
  replace c10 := bkeep2 hb4 c10
  replace c11 := bkeep2 hb4 c11
  replace c20 := bkeep2 hb4 c20
  replace c21 := bkeep2 hb4 c21
  have l0 : w.heap.size < w4.heap.size := cell_lt c00
  have l1 : w.heap.size + 1 < w4.heap.size := cell_lt c10
  have l2 : w.heap.size + 1 + 1 < w4.heap.size := cell_lt c20
  go_wp2_with fail
  go_region_held3? (fun w' => w'.cell? ⟨w.heap.size, 0, none⟩ = some (.complex .f64 a b) ∧ w'.cell? ⟨w.heap.size, 1, none⟩ = some (.float .f64 r) ∧ w'.cell? ⟨w.heap.size + 1, 0, none⟩ = some (.complex .f64 c d) ∧ w'.cell? ⟨w.heap.size + 1, 1, none⟩ = some (.float .f64 s)) (((try dsimp only); (try go_split_ands); (repeat' apply And.intro) <;> first | (with_reducible assumption) | (rw [set_other (by first | omega | (simp; done) | (simp; omega)), set_other (by first | omega | (simp; done) | (simp; omega))]; (with_reducible assumption)) | (with_reducible refine bkeep2 hb ?_; first | (with_reducible assumption) | (simp [*]; done)) | go_keep)) (first | (go_at_call 44; with_reducible refine (p1 _).mono ?_; rintro e w' ⟨rfl, hb⟩; have z0 := bkeep2 hb (p := ⟨w.heap.size + 1 + 1, 0, none⟩) (v := .complex .f64 0 0) (by first | (with_reducible assumption) | simp [*]); have y0 := bfroz2 hb (p := ⟨w.heap.size + 1 + 1, 0, none⟩) (v := .complex .f64 0 0) (by first | (with_reducible assumption) | simp [*]) (by first | (with_reducible assumption) | simp [*]); have z1 := bkeep2 hb (p := ⟨w.heap.size + 1 + 1, 1, none⟩) (v := .float .f64 0) (by first | (with_reducible assumption) | simp [*]); have y1 := bfroz2 hb (p := ⟨w.heap.size + 1 + 1, 1, none⟩) (v := .float .f64 0) (by first | (with_reducible assumption) | simp [*]) (by first | (with_reducible assumption) | simp [*])) | (go_at_call 44; with_reducible refine (p2 _).mono ?_; rintro e w' ⟨rfl, hb⟩; have z0 := bkeep2 hb (p := ⟨w.heap.size + 1 + 1, 0, none⟩) (v := .complex .f64 0 0) (by first | (with_reducible assumption) | simp [*]); have y0 := bfroz2 hb (p := ⟨w.heap.size + 1 + 1, 0, none⟩) (v := .complex .f64 0 0) (by first | (with_reducible assumption) | simp [*]) (by first | (with_reducible assumption) | simp [*]); have z1 := bkeep2 hb (p := ⟨w.heap.size + 1 + 1, 1, none⟩) (v := .float .f64 0) (by first | (with_reducible assumption) | simp [*]); have y1 := bfroz2 hb (p := ⟨w.heap.size + 1 + 1, 1, none⟩) (v := .float .f64 0) (by first | (with_reducible assumption) | simp [*]) (by first | (with_reducible assumption) | simp [*])) | (go_at_call 43; with_reducible refine (bo _).mono ?_; rintro e w' ⟨rfl, hb⟩; have z0 := bkeep2 hb (p := ⟨w.heap.size + 1 + 1, 0, none⟩) (v := .complex .f64 0 0) (by first | (with_reducible assumption) | simp [*]); have y0 := bfroz2 hb (p := ⟨w.heap.size + 1 + 1, 0, none⟩) (v := .complex .f64 0 0) (by first | (with_reducible assumption) | simp [*]) (by first | (with_reducible assumption) | simp [*]); have z1 := bkeep2 hb (p := ⟨w.heap.size + 1 + 1, 1, none⟩) (v := .float .f64 0) (by first | (with_reducible assumption) | simp [*]); have y1 := bfroz2 hb (p := ⟨w.heap.size + 1 + 1, 1, none⟩) (v := .float .f64 0) (by first | (with_reducible assumption) | simp [*]) (by first | (with_reducible assumption) | simp [*])) | (go_at_call 51; with_reducible refine (rd _).mono ?_; rintro e w' ⟨rfl, hb⟩; have z0 := bkeep2 hb (p := ⟨w.heap.size + 1 + 1, 0, none⟩) (v := .complex .f64 0 0) (by first | (with_reducible assumption) | simp [*]); have y0 := bfroz2 hb (p := ⟨w.heap.size + 1 + 1, 0, none⟩) (v := .complex .f64 0 0) (by first | (with_reducible assumption) | simp [*]) (by first | (with_reducible assumption) | simp [*]); have z1 := bkeep2 hb (p := ⟨w.heap.size + 1 + 1, 1, none⟩) (v := .float .f64 0) (by first | (with_reducible assumption) | simp [*]); have y1 := bfroz2 hb (p := ⟨w.heap.size + 1 + 1, 1, none⟩) (v := .float .f64 0) (by first | (with_reducible assumption) | simp [*]) (by first | (with_reducible assumption) | simp [*])) | (go_at_call 47; with_reducible refine (ar _).mono ?_; rintro e w' ⟨rfl, hb⟩; have z0 := bkeep2 hb (p := ⟨w.heap.size + 1 + 1, 0, none⟩) (v := .complex .f64 0 0) (by first | (with_reducible assumption) | simp [*]); have y0 := bfroz2 hb (p := ⟨w.heap.size + 1 + 1, 0, none⟩) (v := .complex .f64 0 0) (by first | (with_reducible assumption) | simp [*]) (by first | (with_reducible assumption) | simp [*]); have z1 := bkeep2 hb (p := ⟨w.heap.size + 1 + 1, 1, none⟩) (v := .float .f64 0) (by first | (with_reducible assumption) | simp [*]); have y1 := bfroz2 hb (p := ⟨w.heap.size + 1 + 1, 1, none⟩) (v := .float .f64 0) (by first | (with_reducible assumption) | simp [*]) (by first | (with_reducible assumption) | simp [*])))
  all_goals (go_wp2_with fail; refine bodyPost_ret (v := .agg #[.complex .f64 k1 k2, .float .f64 k3]) (by simp [results, Try.results50, go_sem, *]) rfl ⟨rfl, ?_⟩; repeat (with_reducible first | exact Below.refl _ _ | assumption | refine Below.drew ?_ | refine bl_drewN ?_ _ | refine Below.setCell ?_ (by first | omega | (simp; done) | (simp; omega)) _ | refine Below.alloc ?_ (by first | omega | (simp; done) | (simp; omega)) _ | refine bl_next ?_ (by assumption) | refine bl_trans ?_ (by assumption) (by first | omega | (simp; done) | (simp; omega))))

set_option maxHeartbeats 1000000 in
theorem discAdd_w (a b r c d s k1 k2 k3 : Nat)
    (h : ∀ w, Calls Try.prog 50 #[.agg #[.complex .f64 a b, .float .f64 r], .agg #[.complex .f64 c d, .float .f64 s], .func (.func 43) #[] #[], .func (.func 51) #[] #[]] w fun e w' => e = .returned (.agg #[.complex .f64 k1 k2, .float .f64 k3]) ∧ Below w.heap.size w w') (w : World) :
    Calls Try.prog 31 #[.agg #[.complex .f64 a b, .float .f64 r], .agg #[.complex .f64 c d, .float .f64 s]] w fun e w' => e = .returned (.agg #[.complex .f64 k1 k2, .float .f64 k3]) ∧ Below w.heap.size w w' := by
  go_enter Try.func31, Try.ntmps31
  go_wp2_with fail
  obtain ⟨w0, hw0⟩ : ∃ v, v = (((w.alloc (.cells #[.complex .f64 a b, .float .f64 r] 26)).alloc (.cells #[.complex .f64 c d, .float .f64 s] 26)).alloc (.cells #[.complex .f64 0 0, .float .f64 0] 26)) := ⟨_, rfl⟩
  rw [← hw0]
  have c00 : w0.cell? ⟨w.heap.size, 0, none⟩ = some (.complex .f64 a b) := by simp [hw0, go_sem]
  have c01 : w0.cell? ⟨w.heap.size, 1, none⟩ = some (.float .f64 r) := by simp [hw0, go_sem]
  have c10 : w0.cell? ⟨w.heap.size + 1, 0, none⟩ = some (.complex .f64 c d) := by simp [hw0, go_sem]
  have c11 : w0.cell? ⟨w.heap.size + 1, 1, none⟩ = some (.float .f64 s) := by simp [hw0, go_sem]
  have c20 : w0.cell? ⟨w.heap.size + 1 + 1, 0, none⟩ = some (.complex .f64 0 0) := by simp [hw0, go_sem]
  have fc20 : w0.frozen? ⟨w.heap.size + 1 + 1, 0, none⟩ = false := by simp [hw0, go_sem]
  have c21 : w0.cell? ⟨w.heap.size + 1 + 1, 1, none⟩ = some (.float .f64 0) := by simp [hw0, go_sem]
  have fc21 : w0.frozen? ⟨w.heap.size + 1 + 1, 1, none⟩ = false := by simp [hw0, go_sem]
  have s0 : w.heap.size + 1 + 1 + 1 ≤ w0.heap.size := by simp [hw0]
  have hB0 : Below w.heap.size w w0 := by
    rw [hw0]
    repeat (with_reducible first | exact Below.refl _ _ | assumption | refine Below.drew ?_ | refine bl_drewN ?_ _ | refine Below.setCell ?_ (by first | omega | (simp; done) | (simp; omega)) _ | refine Below.alloc ?_ (by first | omega | (simp; done) | (simp; omega)) _ | refine bl_next ?_ (by assumption) | refine bl_trans ?_ (by assumption) (by first | omega | (simp; done) | (simp; omega)))
  clear hw0
  go_at_call 50
  refine (h _).mono ?_
  rintro e w1 ⟨rfl, hb1⟩
  have s1 := hb1.size
  try simp at s1
  replace fc20 := bfroz2 hb1 c20 fc20
  replace fc21 := bfroz2 hb1 c21 fc21
  replace c00 := bkeep2 hb1 c00
  replace c01 := bkeep2 hb1 c01
  replace c10 := bkeep2 hb1 c10
  replace c11 := bkeep2 hb1 c11
  replace c20 := bkeep2 hb1 c20
  replace c21 := bkeep2 hb1 c21
  have l0 : w.heap.size < w1.heap.size := cell_lt c00
  have l1 : w.heap.size + 1 < w1.heap.size := cell_lt c10
  have l2 : w.heap.size + 1 + 1 < w1.heap.size := cell_lt c20
  go_wp2_with fail
  refine bodyPost_ret (v := .agg #[.complex .f64 k1 k2, .float .f64 k3]) (by simp [results, Try.results31, go_sem, *]) rfl ⟨rfl, ?_⟩
  repeat (with_reducible first | exact Below.refl _ _ | assumption | refine Below.drew ?_ | refine bl_drewN ?_ _ | refine Below.setCell ?_ (by first | omega | (simp; done) | (simp; omega)) _ | refine Below.alloc ?_ (by first | omega | (simp; done) | (simp; omega)) _ | refine bl_next ?_ (by assumption) | refine bl_trans ?_ (by assumption) (by first | omega | (simp; done) | (simp; omega)))

set_option maxHeartbeats 1000000 in
theorem iDiscAdd_w (a b r c d s k1 k2 k3 : Nat)
    (h : ∀ w, Calls Try.prog 31 #[.agg #[.complex .f64 a b, .float .f64 r], .agg #[.complex .f64 c d, .float .f64 s]] w fun e w' => e = .returned (.agg #[.complex .f64 k1 k2, .float .f64 k3]) ∧ Below w.heap.size w w') (w : World) :
    Calls Try.prog 16 #[.agg #[.complex .f64 a b, .float .f64 r], .agg #[.complex .f64 c d, .float .f64 s]] w fun e w' => e = .returned (.agg #[.complex .f64 k1 k2, .float .f64 k3]) ∧ Below w.heap.size w w' := by
  go_enter Try.func16, Try.ntmps16
  go_wp2_with fail
  obtain ⟨w0, hw0⟩ : ∃ v, v = (((w.alloc (.cells #[.complex .f64 a b, .float .f64 r] 26)).alloc (.cells #[.complex .f64 c d, .float .f64 s] 26)).alloc (.cells #[.complex .f64 0 0, .float .f64 0] 26)) := ⟨_, rfl⟩
  rw [← hw0]
  have c00 : w0.cell? ⟨w.heap.size, 0, none⟩ = some (.complex .f64 a b) := by simp [hw0, go_sem]
  have c01 : w0.cell? ⟨w.heap.size, 1, none⟩ = some (.float .f64 r) := by simp [hw0, go_sem]
  have c10 : w0.cell? ⟨w.heap.size + 1, 0, none⟩ = some (.complex .f64 c d) := by simp [hw0, go_sem]
  have c11 : w0.cell? ⟨w.heap.size + 1, 1, none⟩ = some (.float .f64 s) := by simp [hw0, go_sem]
  have c20 : w0.cell? ⟨w.heap.size + 1 + 1, 0, none⟩ = some (.complex .f64 0 0) := by simp [hw0, go_sem]
  have fc20 : w0.frozen? ⟨w.heap.size + 1 + 1, 0, none⟩ = false := by simp [hw0, go_sem]
  have c21 : w0.cell? ⟨w.heap.size + 1 + 1, 1, none⟩ = some (.float .f64 0) := by simp [hw0, go_sem]
  have fc21 : w0.frozen? ⟨w.heap.size + 1 + 1, 1, none⟩ = false := by simp [hw0, go_sem]
  have s0 : w.heap.size + 1 + 1 + 1 ≤ w0.heap.size := by simp [hw0]
  have hB0 : Below w.heap.size w w0 := by
    rw [hw0]
    repeat (with_reducible first | exact Below.refl _ _ | assumption | refine Below.drew ?_ | refine bl_drewN ?_ _ | refine Below.setCell ?_ (by first | omega | (simp; done) | (simp; omega)) _ | refine Below.alloc ?_ (by first | omega | (simp; done) | (simp; omega)) _ | refine bl_next ?_ (by assumption) | refine bl_trans ?_ (by assumption) (by first | omega | (simp; done) | (simp; omega)))
  clear hw0
  go_at_call 31
  refine (h _).mono ?_
  rintro e w1 ⟨rfl, hb1⟩
  have s1 := hb1.size
  try simp at s1
  replace fc20 := bfroz2 hb1 c20 fc20
  replace fc21 := bfroz2 hb1 c21 fc21
  replace c00 := bkeep2 hb1 c00
  replace c01 := bkeep2 hb1 c01
  replace c10 := bkeep2 hb1 c10
  replace c11 := bkeep2 hb1 c11
  replace c20 := bkeep2 hb1 c20
  replace c21 := bkeep2 hb1 c21
  have l0 : w.heap.size < w1.heap.size := cell_lt c00
  have l1 : w.heap.size + 1 < w1.heap.size := cell_lt c10
  have l2 : w.heap.size + 1 + 1 < w1.heap.size := cell_lt c20
  go_wp2_with fail
  refine bodyPost_ret (v := .agg #[.complex .f64 k1 k2, .float .f64 k3]) (by simp [results, Try.results16, go_sem, *]) rfl ⟨rfl, ?_⟩
  repeat (with_reducible first | exact Below.refl _ _ | assumption | refine Below.drew ?_ | refine bl_drewN ?_ _ | refine Below.setCell ?_ (by first | omega | (simp; done) | (simp; omega)) _ | refine Below.alloc ?_ (by first | omega | (simp; done) | (simp; omega)) _ | refine bl_next ?_ (by assumption) | refine bl_trans ?_ (by assumption) (by first | omega | (simp; done) | (simp; omega)))

set_option maxHeartbeats 2000000 in
theorem combineSub_w (a b r c d s k1 k2 k3 t X1 X2 X3 X4 Y1 Y2 Y3 Y4 z1 z2 z3 z4 : Nat)
    (h1 : ∀ w, Calls Try.prog 39 #[.agg #[.complex .f64 a b, .float .f64 r]] w fun e w' => e = .returned (.bool false) ∧ Below w.heap.size w w')
    (h2 : ∀ w, Calls Try.prog 39 #[.agg #[.complex .f64 c d, .float .f64 s]] w fun e w' => e = .returned (.bool false) ∧ Below w.heap.size w w')
    (h3 : ∀ w, Calls Try.prog 41 #[.agg #[.complex .f64 a b, .float .f64 r]] w fun e w' => e = .returned (.bool false) ∧ Below w.heap.size w w')
    (h4 : ∀ w, Calls Try.prog 41 #[.agg #[.complex .f64 c d, .float .f64 s]] w fun e w' => e = .returned (.bool false) ∧ Below w.heap.size w w')
    (p1 : ∀ w, Calls Try.prog 44 #[.complex .f64 a b] w fun e w' => e = .returned (.agg #[.float .f64 X1, .float .f64 X2, .float .f64 X3, .float .f64 X4]) ∧ Below w.heap.size w w')
    (p2 : ∀ w, Calls Try.prog 44 #[.complex .f64 c d] w fun e w' => e = .returned (.agg #[.float .f64 Y1, .float .f64 Y2, .float .f64 Y3, .float .f64 Y4]) ∧ Below w.heap.size w w')
    (bo : ∀ w, Calls Try.prog 52 #[.agg #[.float .f64 X1, .float .f64 X2, .float .f64 X3, .float .f64 X4], .agg #[.float .f64 Y1, .float .f64 Y2, .float .f64 Y3, .float .f64 Y4]] w fun e w' => e = .returned (.agg #[.float .f64 z1, .float .f64 z2, .float .f64 z3, .float .f64 z4]) ∧ Below w.heap.size w w')
    (rd : ∀ w, Calls Try.prog 51 #[.agg #[.complex .f64 a b, .float .f64 r], .agg #[.complex .f64 c d, .float .f64 s]] w fun e w' => e = .returned (.float .f64 t) ∧ Below w.heap.size w w')
    (ar : ∀ w, Calls Try.prog 47 #[.agg #[.float .f64 z1, .float .f64 z2, .float .f64 z3, .float .f64 z4], .float .f64 t] w fun e w' => e = .returned (.agg #[.complex .f64 k1 k2, .float .f64 k3]) ∧ Below w.heap.size w w') (w : World) :
    Calls Try.prog 50 #[.agg #[.complex .f64 a b, .float .f64 r], .agg #[.complex .f64 c d, .float .f64 s], .func (.func 52) #[] #[], .func (.func 51) #[] #[]] w fun e w' => e = .returned (.agg #[.complex .f64 k1 k2, .float .f64 k3]) ∧ Below w.heap.size w w' := by
  go_enter Try.func50, Try.ntmps50
  go_wp2_with fail
  obtain ⟨w0, hw0⟩ : ∃ v, v = (((w.alloc (.cells #[.complex .f64 a b, .float .f64 r] 26)).alloc (.cells #[.complex .f64 c d, .float .f64 s] 26)).alloc (.cells #[.complex .f64 0 0, .float .f64 0] 26)) := ⟨_, rfl⟩
  rw [← hw0]
  have c00 : w0.cell? ⟨w.heap.size, 0, none⟩ = some (.complex .f64 a b) := by simp [hw0, go_sem]
  have c01 : w0.cell? ⟨w.heap.size, 1, none⟩ = some (.float .f64 r) := by simp [hw0, go_sem]
  have c10 : w0.cell? ⟨w.heap.size + 1, 0, none⟩ = some (.complex .f64 c d) := by simp [hw0, go_sem]
  have c11 : w0.cell? ⟨w.heap.size + 1, 1, none⟩ = some (.float .f64 s) := by simp [hw0, go_sem]
  have c20 : w0.cell? ⟨w.heap.size + 1 + 1, 0, none⟩ = some (.complex .f64 0 0) := by simp [hw0, go_sem]
  have fc20 : w0.frozen? ⟨w.heap.size + 1 + 1, 0, none⟩ = false := by simp [hw0, go_sem]
  have c21 : w0.cell? ⟨w.heap.size + 1 + 1, 1, none⟩ = some (.float .f64 0) := by simp [hw0, go_sem]
  have fc21 : w0.frozen? ⟨w.heap.size + 1 + 1, 1, none⟩ = false := by simp [hw0, go_sem]
  have s0 : w.heap.size + 1 + 1 + 1 ≤ w0.heap.size := by simp [hw0]
  have hB0 : Below w.heap.size w w0 := by
    rw [hw0]
    repeat (with_reducible first | exact Below.refl _ _ | assumption | refine Below.drew ?_ | refine bl_drewN ?_ _ | refine Below.setCell ?_ (by first | omega | (simp; done) | (simp; omega)) _ | refine Below.alloc ?_ (by first | omega | (simp; done) | (simp; omega)) _ | refine bl_next ?_ (by assumption) | refine bl_trans ?_ (by assumption) (by first | omega | (simp; done) | (simp; omega)))
  clear hw0
  go_at_call 39
  refine (h1 _).mono ?_
  rintro e w1 ⟨rfl, hb1⟩
  have s1 := hb1.size
  try simp at s1
  replace fc20 := bfroz2 hb1 c20 fc20
  replace fc21 := bfroz2 hb1 c21 fc21
  replace c00 := bkeep2 hb1 c00
  replace c01 := bkeep2 hb1 c01
  replace c10 := bkeep2 hb1 c10
  replace c11 := bkeep2 hb1 c11
  replace c20 := bkeep2 hb1 c20
  replace c21 := bkeep2 hb1 c21
  have l0 : w.heap.size < w1.heap.size := cell_lt c00
  have l1 : w.heap.size + 1 < w1.heap.size := cell_lt c10
  have l2 : w.heap.size + 1 + 1 < w1.heap.size := cell_lt c20
  go_wp2_with fail
  go_at_call 39
  refine (h2 _).mono ?_
  rintro e w2 ⟨rfl, hb2⟩
  have s2 := hb2.size
  try simp at s2
  replace fc20 := bfroz2 hb2 c20 fc20
  replace fc21 := bfroz2 hb2 c21 fc21
  replace c00 := bkeep2 hb2 c00
  replace c01 := bkeep2 hb2 c01
  replace c10 := bkeep2 hb2 c10
  replace c11 := bkeep2 hb2 c11
  replace c20 := bkeep2 hb2 c20
  replace c21 := bkeep2 hb2 c21
  have l0 : w.heap.size < w2.heap.size := cell_lt c00
  have l1 : w.heap.size + 1 < w2.heap.size := cell_lt c10
  have l2 : w.heap.size + 1 + 1 < w2.heap.size := cell_lt c20
  go_wp2_with fail
  go_at_call 41
  refine (h3 _).mono ?_
  rintro e w3 ⟨rfl, hb3⟩
  have s3 := hb3.size
  try simp at s3
  replace fc20 := bfroz2 hb3 c20 fc20
  replace fc21 := bfroz2 hb3 c21 fc21
  replace c00 := bkeep2 hb3 c00
  replace c01 := bkeep2 hb3 c01
  replace c10 := bkeep2 hb3 c10
  replace c11 := bkeep2 hb3 c11
  replace c20 := bkeep2 hb3 c20
  replace c21 := bkeep2 hb3 c21
  have l0 : w.heap.size < w3.heap.size := cell_lt c00
  have l1 : w.heap.size + 1 < w3.heap.size := cell_lt c10
  have l2 : w.heap.size + 1 + 1 < w3.heap.size := cell_lt c20
  go_wp2_with fail
  go_at_call 41
  refine (h4 _).mono ?_
  rintro e w4 ⟨rfl, hb4⟩
  have s4 := hb4.size
  try simp at s4
  replace fc20 := bfroz2 hb4 c20 fc20
  replace fc21 := bfroz2 hb4 c21 fc21
  replace c00 := bkeep2 hb4 c00
  replace c01 := bkeep2 hb4 c01
  replace c10 := bkeep2 hb4 c10
  replace c11 := bkeep2 hb4 c11
  replace c20 := bkeep2 hb4 c20
  replace c21 := bkeep2 hb4 c21
  have l0 : w.heap.size < w4.heap.size := cell_lt c00
  have l1 : w.heap.size + 1 < w4.heap.size := cell_lt c10
  have l2 : w.heap.size + 1 + 1 < w4.heap.size := cell_lt c20
  go_wp2_with fail
  go_region_held3? (fun w' => w'.cell? ⟨w.heap.size, 0, none⟩ = some (.complex .f64 a b) ∧ w'.cell? ⟨w.heap.size, 1, none⟩ = some (.float .f64 r) ∧ w'.cell? ⟨w.heap.size + 1, 0, none⟩ = some (.complex .f64 c d) ∧ w'.cell? ⟨w.heap.size + 1, 1, none⟩ = some (.float .f64 s)) (((try dsimp only); (try go_split_ands); (repeat' apply And.intro) <;> first | (with_reducible assumption) | (rw [set_other (by first | omega | (simp; done) | (simp; omega)), set_other (by first | omega | (simp; done) | (simp; omega))]; (with_reducible assumption)) | (with_reducible refine bkeep2 hb ?_; first | (with_reducible assumption) | (simp [*]; done)) | go_keep)) (first | (go_at_call 44; with_reducible refine (p1 _).mono ?_; rintro e w' ⟨rfl, hb⟩; have z0 := bkeep2 hb (p := ⟨w.heap.size + 1 + 1, 0, none⟩) (v := .complex .f64 0 0) (by first | (with_reducible assumption) | simp [*]); have y0 := bfroz2 hb (p := ⟨w.heap.size + 1 + 1, 0, none⟩) (v := .complex .f64 0 0) (by first | (with_reducible assumption) | simp [*]) (by first | (with_reducible assumption) | simp [*]); have z1 := bkeep2 hb (p := ⟨w.heap.size + 1 + 1, 1, none⟩) (v := .float .f64 0) (by first | (with_reducible assumption) | simp [*]); have y1 := bfroz2 hb (p := ⟨w.heap.size + 1 + 1, 1, none⟩) (v := .float .f64 0) (by first | (with_reducible assumption) | simp [*]) (by first | (with_reducible assumption) | simp [*])) | (go_at_call 44; with_reducible refine (p2 _).mono ?_; rintro e w' ⟨rfl, hb⟩; have z0 := bkeep2 hb (p := ⟨w.heap.size + 1 + 1, 0, none⟩) (v := .complex .f64 0 0) (by first | (with_reducible assumption) | simp [*]); have y0 := bfroz2 hb (p := ⟨w.heap.size + 1 + 1, 0, none⟩) (v := .complex .f64 0 0) (by first | (with_reducible assumption) | simp [*]) (by first | (with_reducible assumption) | simp [*]); have z1 := bkeep2 hb (p := ⟨w.heap.size + 1 + 1, 1, none⟩) (v := .float .f64 0) (by first | (with_reducible assumption) | simp [*]); have y1 := bfroz2 hb (p := ⟨w.heap.size + 1 + 1, 1, none⟩) (v := .float .f64 0) (by first | (with_reducible assumption) | simp [*]) (by first | (with_reducible assumption) | simp [*])) | (go_at_call 52; with_reducible refine (bo _).mono ?_; rintro e w' ⟨rfl, hb⟩; have z0 := bkeep2 hb (p := ⟨w.heap.size + 1 + 1, 0, none⟩) (v := .complex .f64 0 0) (by first | (with_reducible assumption) | simp [*]); have y0 := bfroz2 hb (p := ⟨w.heap.size + 1 + 1, 0, none⟩) (v := .complex .f64 0 0) (by first | (with_reducible assumption) | simp [*]) (by first | (with_reducible assumption) | simp [*]); have z1 := bkeep2 hb (p := ⟨w.heap.size + 1 + 1, 1, none⟩) (v := .float .f64 0) (by first | (with_reducible assumption) | simp [*]); have y1 := bfroz2 hb (p := ⟨w.heap.size + 1 + 1, 1, none⟩) (v := .float .f64 0) (by first | (with_reducible assumption) | simp [*]) (by first | (with_reducible assumption) | simp [*])) | (go_at_call 51; with_reducible refine (rd _).mono ?_; rintro e w' ⟨rfl, hb⟩; have z0 := bkeep2 hb (p := ⟨w.heap.size + 1 + 1, 0, none⟩) (v := .complex .f64 0 0) (by first | (with_reducible assumption) | simp [*]); have y0 := bfroz2 hb (p := ⟨w.heap.size + 1 + 1, 0, none⟩) (v := .complex .f64 0 0) (by first | (with_reducible assumption) | simp [*]) (by first | (with_reducible assumption) | simp [*]); have z1 := bkeep2 hb (p := ⟨w.heap.size + 1 + 1, 1, none⟩) (v := .float .f64 0) (by first | (with_reducible assumption) | simp [*]); have y1 := bfroz2 hb (p := ⟨w.heap.size + 1 + 1, 1, none⟩) (v := .float .f64 0) (by first | (with_reducible assumption) | simp [*]) (by first | (with_reducible assumption) | simp [*])) | (go_at_call 47; with_reducible refine (ar _).mono ?_; rintro e w' ⟨rfl, hb⟩; have z0 := bkeep2 hb (p := ⟨w.heap.size + 1 + 1, 0, none⟩) (v := .complex .f64 0 0) (by first | (with_reducible assumption) | simp [*]); have y0 := bfroz2 hb (p := ⟨w.heap.size + 1 + 1, 0, none⟩) (v := .complex .f64 0 0) (by first | (with_reducible assumption) | simp [*]) (by first | (with_reducible assumption) | simp [*]); have z1 := bkeep2 hb (p := ⟨w.heap.size + 1 + 1, 1, none⟩) (v := .float .f64 0) (by first | (with_reducible assumption) | simp [*]); have y1 := bfroz2 hb (p := ⟨w.heap.size + 1 + 1, 1, none⟩) (v := .float .f64 0) (by first | (with_reducible assumption) | simp [*]) (by first | (with_reducible assumption) | simp [*])))
  all_goals (go_wp2_with fail; refine bodyPost_ret (v := .agg #[.complex .f64 k1 k2, .float .f64 k3]) (by simp [results, Try.results50, go_sem, *]) rfl ⟨rfl, ?_⟩; repeat (with_reducible first | exact Below.refl _ _ | assumption | refine Below.drew ?_ | refine bl_drewN ?_ _ | refine Below.setCell ?_ (by first | omega | (simp; done) | (simp; omega)) _ | refine Below.alloc ?_ (by first | omega | (simp; done) | (simp; omega)) _ | refine bl_next ?_ (by assumption) | refine bl_trans ?_ (by assumption) (by first | omega | (simp; done) | (simp; omega))))

set_option maxHeartbeats 1000000 in
theorem discSub_w (a b r c d s k1 k2 k3 : Nat)
    (h : ∀ w, Calls Try.prog 50 #[.agg #[.complex .f64 a b, .float .f64 r], .agg #[.complex .f64 c d, .float .f64 s], .func (.func 52) #[] #[], .func (.func 51) #[] #[]] w fun e w' => e = .returned (.agg #[.complex .f64 k1 k2, .float .f64 k3]) ∧ Below w.heap.size w w') (w : World) :
    Calls Try.prog 32 #[.agg #[.complex .f64 a b, .float .f64 r], .agg #[.complex .f64 c d, .float .f64 s]] w fun e w' => e = .returned (.agg #[.complex .f64 k1 k2, .float .f64 k3]) ∧ Below w.heap.size w w' := by
  go_enter Try.func32, Try.ntmps32
  go_wp2_with fail
  obtain ⟨w0, hw0⟩ : ∃ v, v = (((w.alloc (.cells #[.complex .f64 a b, .float .f64 r] 26)).alloc (.cells #[.complex .f64 c d, .float .f64 s] 26)).alloc (.cells #[.complex .f64 0 0, .float .f64 0] 26)) := ⟨_, rfl⟩
  rw [← hw0]
  have c00 : w0.cell? ⟨w.heap.size, 0, none⟩ = some (.complex .f64 a b) := by simp [hw0, go_sem]
  have c01 : w0.cell? ⟨w.heap.size, 1, none⟩ = some (.float .f64 r) := by simp [hw0, go_sem]
  have c10 : w0.cell? ⟨w.heap.size + 1, 0, none⟩ = some (.complex .f64 c d) := by simp [hw0, go_sem]
  have c11 : w0.cell? ⟨w.heap.size + 1, 1, none⟩ = some (.float .f64 s) := by simp [hw0, go_sem]
  have c20 : w0.cell? ⟨w.heap.size + 1 + 1, 0, none⟩ = some (.complex .f64 0 0) := by simp [hw0, go_sem]
  have fc20 : w0.frozen? ⟨w.heap.size + 1 + 1, 0, none⟩ = false := by simp [hw0, go_sem]
  have c21 : w0.cell? ⟨w.heap.size + 1 + 1, 1, none⟩ = some (.float .f64 0) := by simp [hw0, go_sem]
  have fc21 : w0.frozen? ⟨w.heap.size + 1 + 1, 1, none⟩ = false := by simp [hw0, go_sem]
  have s0 : w.heap.size + 1 + 1 + 1 ≤ w0.heap.size := by simp [hw0]
  have hB0 : Below w.heap.size w w0 := by
    rw [hw0]
    repeat (with_reducible first | exact Below.refl _ _ | assumption | refine Below.drew ?_ | refine bl_drewN ?_ _ | refine Below.setCell ?_ (by first | omega | (simp; done) | (simp; omega)) _ | refine Below.alloc ?_ (by first | omega | (simp; done) | (simp; omega)) _ | refine bl_next ?_ (by assumption) | refine bl_trans ?_ (by assumption) (by first | omega | (simp; done) | (simp; omega)))
  clear hw0
  go_at_call 50
  refine (h _).mono ?_
  rintro e w1 ⟨rfl, hb1⟩
  have s1 := hb1.size
  try simp at s1
  replace fc20 := bfroz2 hb1 c20 fc20
  replace fc21 := bfroz2 hb1 c21 fc21
  replace c00 := bkeep2 hb1 c00
  replace c01 := bkeep2 hb1 c01
  replace c10 := bkeep2 hb1 c10
  replace c11 := bkeep2 hb1 c11
  replace c20 := bkeep2 hb1 c20
  replace c21 := bkeep2 hb1 c21
  have l0 : w.heap.size < w1.heap.size := cell_lt c00
  have l1 : w.heap.size + 1 < w1.heap.size := cell_lt c10
  have l2 : w.heap.size + 1 + 1 < w1.heap.size := cell_lt c20
  go_wp2_with fail
  refine bodyPost_ret (v := .agg #[.complex .f64 k1 k2, .float .f64 k3]) (by simp [results, Try.results32, go_sem, *]) rfl ⟨rfl, ?_⟩
  repeat (with_reducible first | exact Below.refl _ _ | assumption | refine Below.drew ?_ | refine bl_drewN ?_ _ | refine Below.setCell ?_ (by first | omega | (simp; done) | (simp; omega)) _ | refine Below.alloc ?_ (by first | omega | (simp; done) | (simp; omega)) _ | refine bl_next ?_ (by assumption) | refine bl_trans ?_ (by assumption) (by first | omega | (simp; done) | (simp; omega)))

set_option maxHeartbeats 1000000 in
theorem iDiscSub_w (a b r c d s k1 k2 k3 : Nat)
    (h : ∀ w, Calls Try.prog 32 #[.agg #[.complex .f64 a b, .float .f64 r], .agg #[.complex .f64 c d, .float .f64 s]] w fun e w' => e = .returned (.agg #[.complex .f64 k1 k2, .float .f64 k3]) ∧ Below w.heap.size w w') (w : World) :
    Calls Try.prog 17 #[.agg #[.complex .f64 a b, .float .f64 r], .agg #[.complex .f64 c d, .float .f64 s]] w fun e w' => e = .returned (.agg #[.complex .f64 k1 k2, .float .f64 k3]) ∧ Below w.heap.size w w' := by
  go_enter Try.func17, Try.ntmps17
  go_wp2_with fail
  obtain ⟨w0, hw0⟩ : ∃ v, v = (((w.alloc (.cells #[.complex .f64 a b, .float .f64 r] 26)).alloc (.cells #[.complex .f64 c d, .float .f64 s] 26)).alloc (.cells #[.complex .f64 0 0, .float .f64 0] 26)) := ⟨_, rfl⟩
  rw [← hw0]
  have c00 : w0.cell? ⟨w.heap.size, 0, none⟩ = some (.complex .f64 a b) := by simp [hw0, go_sem]
  have c01 : w0.cell? ⟨w.heap.size, 1, none⟩ = some (.float .f64 r) := by simp [hw0, go_sem]
  have c10 : w0.cell? ⟨w.heap.size + 1, 0, none⟩ = some (.complex .f64 c d) := by simp [hw0, go_sem]
  have c11 : w0.cell? ⟨w.heap.size + 1, 1, none⟩ = some (.float .f64 s) := by simp [hw0, go_sem]
  have c20 : w0.cell? ⟨w.heap.size + 1 + 1, 0, none⟩ = some (.complex .f64 0 0) := by simp [hw0, go_sem]
  have fc20 : w0.frozen? ⟨w.heap.size + 1 + 1, 0, none⟩ = false := by simp [hw0, go_sem]
  have c21 : w0.cell? ⟨w.heap.size + 1 + 1, 1, none⟩ = some (.float .f64 0) := by simp [hw0, go_sem]
  have fc21 : w0.frozen? ⟨w.heap.size + 1 + 1, 1, none⟩ = false := by simp [hw0, go_sem]
  have s0 : w.heap.size + 1 + 1 + 1 ≤ w0.heap.size := by simp [hw0]
  have hB0 : Below w.heap.size w w0 := by
    rw [hw0]
    repeat (with_reducible first | exact Below.refl _ _ | assumption | refine Below.drew ?_ | refine bl_drewN ?_ _ | refine Below.setCell ?_ (by first | omega | (simp; done) | (simp; omega)) _ | refine Below.alloc ?_ (by first | omega | (simp; done) | (simp; omega)) _ | refine bl_next ?_ (by assumption) | refine bl_trans ?_ (by assumption) (by first | omega | (simp; done) | (simp; omega)))
  clear hw0
  go_at_call 32
  refine (h _).mono ?_
  rintro e w1 ⟨rfl, hb1⟩
  have s1 := hb1.size
  try simp at s1
  replace fc20 := bfroz2 hb1 c20 fc20
  replace fc21 := bfroz2 hb1 c21 fc21
  replace c00 := bkeep2 hb1 c00
  replace c01 := bkeep2 hb1 c01
  replace c10 := bkeep2 hb1 c10
  replace c11 := bkeep2 hb1 c11
  replace c20 := bkeep2 hb1 c20
  replace c21 := bkeep2 hb1 c21
  have l0 : w.heap.size < w1.heap.size := cell_lt c00
  have l1 : w.heap.size + 1 < w1.heap.size := cell_lt c10
  have l2 : w.heap.size + 1 + 1 < w1.heap.size := cell_lt c20
  go_wp2_with fail
  refine bodyPost_ret (v := .agg #[.complex .f64 k1 k2, .float .f64 k3]) (by simp [results, Try.results17, go_sem, *]) rfl ⟨rfl, ?_⟩
  repeat (with_reducible first | exact Below.refl _ _ | assumption | refine Below.drew ?_ | refine bl_drewN ?_ _ | refine Below.setCell ?_ (by first | omega | (simp; done) | (simp; omega)) _ | refine Below.alloc ?_ (by first | omega | (simp; done) | (simp; omega)) _ | refine bl_next ?_ (by assumption) | refine bl_trans ?_ (by assumption) (by first | omega | (simp; done) | (simp; omega)))

set_option maxHeartbeats 1000000 in
theorem toBox_w (a b r e1 e2 e3 e4 X1 X2 X3 X4 Y1 Y2 Y3 Y4 : Nat)
    (h1 : ∀ w, Calls Try.prog 39 #[.agg #[.complex .f64 a b, .float .f64 r]] w fun e w' => e = .returned (.bool false) ∧ Below w.heap.size w w')
    (h2 : ∀ w, Calls Try.prog 41 #[.agg #[.complex .f64 a b, .float .f64 r]] w fun e w' => e = .returned (.bool false) ∧ Below w.heap.size w w')
    (p1 : ∀ w, Calls Try.prog 44 #[.complex .f64 a b] w fun e w' => e = .returned (.agg #[.float .f64 X1, .float .f64 X2, .float .f64 X3, .float .f64 X4]) ∧ Below w.heap.size w w')
    (sq : ∀ w, Calls Try.prog 45 #[.float .f64 r] w fun e w' => e = .returned (.agg #[.float .f64 Y1, .float .f64 Y2, .float .f64 Y3, .float .f64 Y4]) ∧ Below w.heap.size w w')
    (bo : ∀ w, Calls Try.prog 43 #[.agg #[.float .f64 X1, .float .f64 X2, .float .f64 X3, .float .f64 X4], .agg #[.float .f64 Y1, .float .f64 Y2, .float .f64 Y3, .float .f64 Y4]] w fun e w' => e = .returned (.agg #[.float .f64 e1, .float .f64 e2, .float .f64 e3, .float .f64 e4]) ∧ Below w.heap.size w w') (w : World) :
    Calls Try.prog 25 #[.agg #[.complex .f64 a b, .float .f64 r]] w fun e w' => e = .returned (.agg #[.float .f64 e1, .float .f64 e2, .float .f64 e3, .float .f64 e4]) ∧ Below w.heap.size w w' := by
  go_enter Try.func25, Try.ntmps25
  go_wp2_with fail
  obtain ⟨w0, hw0⟩ : ∃ v, v = ((w.alloc (.cells #[.complex .f64 a b, .float .f64 r] 26)).alloc (.cells #[.float .f64 0, .float .f64 0, .float .f64 0, .float .f64 0] 32)) := ⟨_, rfl⟩
  rw [← hw0]
  have c00 : w0.cell? ⟨w.heap.size, 0, none⟩ = some (.complex .f64 a b) := by simp [hw0, go_sem]
  have c01 : w0.cell? ⟨w.heap.size, 1, none⟩ = some (.float .f64 r) := by simp [hw0, go_sem]
  have c10 : w0.cell? ⟨w.heap.size + 1, 0, none⟩ = some (.float .f64 0) := by simp [hw0, go_sem]
  have fc10 : w0.frozen? ⟨w.heap.size + 1, 0, none⟩ = false := by simp [hw0, go_sem]
  have c11 : w0.cell? ⟨w.heap.size + 1, 1, none⟩ = some (.float .f64 0) := by simp [hw0, go_sem]
  have fc11 : w0.frozen? ⟨w.heap.size + 1, 1, none⟩ = false := by simp [hw0, go_sem]
  have c12 : w0.cell? ⟨w.heap.size + 1, 2, none⟩ = some (.float .f64 0) := by simp [hw0, go_sem]
  have fc12 : w0.frozen? ⟨w.heap.size + 1, 2, none⟩ = false := by simp [hw0, go_sem]
  have c13 : w0.cell? ⟨w.heap.size + 1, 3, none⟩ = some (.float .f64 0) := by simp [hw0, go_sem]
  have fc13 : w0.frozen? ⟨w.heap.size + 1, 3, none⟩ = false := by simp [hw0, go_sem]
  have s0 : w.heap.size + 1 + 1 ≤ w0.heap.size := by simp [hw0]
  have hB0 : Below w.heap.size w w0 := by
    rw [hw0]
    repeat (with_reducible first | exact Below.refl _ _ | assumption | refine Below.drew ?_ | refine bl_drewN ?_ _ | refine Below.setCell ?_ (by first | omega | (simp; done) | (simp; omega)) _ | refine Below.alloc ?_ (by first | omega | (simp; done) | (simp; omega)) _ | refine bl_next ?_ (by assumption) | refine bl_trans ?_ (by assumption) (by first | omega | (simp; done) | (simp; omega)))
  clear hw0
  go_at_call 39
  refine (h1 _).mono ?_
  rintro e w1 ⟨rfl, hb1⟩
  have s1 := hb1.size
  try simp at s1
  replace fc10 := bfroz2 hb1 c10 fc10
  replace fc11 := bfroz2 hb1 c11 fc11
  replace fc12 := bfroz2 hb1 c12 fc12
  replace fc13 := bfroz2 hb1 c13 fc13
  replace c00 := bkeep2 hb1 c00
  replace c01 := bkeep2 hb1 c01
  replace c10 := bkeep2 hb1 c10
  replace c11 := bkeep2 hb1 c11
  replace c12 := bkeep2 hb1 c12
  replace c13 := bkeep2 hb1 c13
  have l0 : w.heap.size < w1.heap.size := cell_lt c00
  have l1 : w.heap.size + 1 < w1.heap.size := cell_lt c10
  go_wp2_with fail
  go_at_call 41
  refine (h2 _).mono ?_
  rintro e w2 ⟨rfl, hb2⟩
  have s2 := hb2.size
  try simp at s2
  replace fc10 := bfroz2 hb2 c10 fc10
  replace fc11 := bfroz2 hb2 c11 fc11
  replace fc12 := bfroz2 hb2 c12 fc12
  replace fc13 := bfroz2 hb2 c13 fc13
  replace c00 := bkeep2 hb2 c00
  replace c01 := bkeep2 hb2 c01
  replace c10 := bkeep2 hb2 c10
  replace c11 := bkeep2 hb2 c11
  replace c12 := bkeep2 hb2 c12
  replace c13 := bkeep2 hb2 c13
  have l0 : w.heap.size < w2.heap.size := cell_lt c00
  have l1 : w.heap.size + 1 < w2.heap.size := cell_lt c10
  go_wp2_with fail
  go_region_held3 (fun w' => w'.cell? ⟨w.heap.size, 0, none⟩ = some (.complex .f64 a b) ∧ w'.cell? ⟨w.heap.size, 1, none⟩ = some (.float .f64 r)) (((try dsimp only); (try go_split_ands); (repeat' apply And.intro) <;> first | (with_reducible assumption) | (rw [set_other (by first | omega | (simp; done) | (simp; omega)), set_other (by first | omega | (simp; done) | (simp; omega)), set_other (by first | omega | (simp; done) | (simp; omega)), set_other (by first | omega | (simp; done) | (simp; omega))]; (with_reducible assumption)) | (with_reducible refine bkeep2 hb ?_; first | (with_reducible assumption) | (simp [*]; done)) | go_keep)) (first | (go_at_call 44; with_reducible refine (p1 _).mono ?_; rintro e w' ⟨rfl, hb⟩; have z0 := bkeep2 hb (p := ⟨w.heap.size + 1, 0, none⟩) (v := .float .f64 0) (by first | (with_reducible assumption) | simp [*]); have y0 := bfroz2 hb (p := ⟨w.heap.size + 1, 0, none⟩) (v := .float .f64 0) (by first | (with_reducible assumption) | simp [*]) (by first | (with_reducible assumption) | simp [*]); have z1 := bkeep2 hb (p := ⟨w.heap.size + 1, 1, none⟩) (v := .float .f64 0) (by first | (with_reducible assumption) | simp [*]); have y1 := bfroz2 hb (p := ⟨w.heap.size + 1, 1, none⟩) (v := .float .f64 0) (by first | (with_reducible assumption) | simp [*]) (by first | (with_reducible assumption) | simp [*]); have z2 := bkeep2 hb (p := ⟨w.heap.size + 1, 2, none⟩) (v := .float .f64 0) (by first | (with_reducible assumption) | simp [*]); have y2 := bfroz2 hb (p := ⟨w.heap.size + 1, 2, none⟩) (v := .float .f64 0) (by first | (with_reducible assumption) | simp [*]) (by first | (with_reducible assumption) | simp [*]); have z3 := bkeep2 hb (p := ⟨w.heap.size + 1, 3, none⟩) (v := .float .f64 0) (by first | (with_reducible assumption) | simp [*]); have y3 := bfroz2 hb (p := ⟨w.heap.size + 1, 3, none⟩) (v := .float .f64 0) (by first | (with_reducible assumption) | simp [*]) (by first | (with_reducible assumption) | simp [*])) | (go_at_call 45; with_reducible refine (sq _).mono ?_; rintro e w' ⟨rfl, hb⟩; have z0 := bkeep2 hb (p := ⟨w.heap.size + 1, 0, none⟩) (v := .float .f64 0) (by first | (with_reducible assumption) | simp [*]); have y0 := bfroz2 hb (p := ⟨w.heap.size + 1, 0, none⟩) (v := .float .f64 0) (by first | (with_reducible assumption) | simp [*]) (by first | (with_reducible assumption) | simp [*]); have z1 := bkeep2 hb (p := ⟨w.heap.size + 1, 1, none⟩) (v := .float .f64 0) (by first | (with_reducible assumption) | simp [*]); have y1 := bfroz2 hb (p := ⟨w.heap.size + 1, 1, none⟩) (v := .float .f64 0) (by first | (with_reducible assumption) | simp [*]) (by first | (with_reducible assumption) | simp [*]); have z2 := bkeep2 hb (p := ⟨w.heap.size + 1, 2, none⟩) (v := .float .f64 0) (by first | (with_reducible assumption) | simp [*]); have y2 := bfroz2 hb (p := ⟨w.heap.size + 1, 2, none⟩) (v := .float .f64 0) (by first | (with_reducible assumption) | simp [*]) (by first | (with_reducible assumption) | simp [*]); have z3 := bkeep2 hb (p := ⟨w.heap.size + 1, 3, none⟩) (v := .float .f64 0) (by first | (with_reducible assumption) | simp [*]); have y3 := bfroz2 hb (p := ⟨w.heap.size + 1, 3, none⟩) (v := .float .f64 0) (by first | (with_reducible assumption) | simp [*]) (by first | (with_reducible assumption) | simp [*])) | (go_at_call 43; with_reducible refine (bo _).mono ?_; rintro e w' ⟨rfl, hb⟩; have z0 := bkeep2 hb (p := ⟨w.heap.size + 1, 0, none⟩) (v := .float .f64 0) (by first | (with_reducible assumption) | simp [*]); have y0 := bfroz2 hb (p := ⟨w.heap.size + 1, 0, none⟩) (v := .float .f64 0) (by first | (with_reducible assumption) | simp [*]) (by first | (with_reducible assumption) | simp [*]); have z1 := bkeep2 hb (p := ⟨w.heap.size + 1, 1, none⟩) (v := .float .f64 0) (by first | (with_reducible assumption) | simp [*]); have y1 := bfroz2 hb (p := ⟨w.heap.size + 1, 1, none⟩) (v := .float .f64 0) (by first | (with_reducible assumption) | simp [*]) (by first | (with_reducible assumption) | simp [*]); have z2 := bkeep2 hb (p := ⟨w.heap.size + 1, 2, none⟩) (v := .float .f64 0) (by first | (with_reducible assumption) | simp [*]); have y2 := bfroz2 hb (p := ⟨w.heap.size + 1, 2, none⟩) (v := .float .f64 0) (by first | (with_reducible assumption) | simp [*]) (by first | (with_reducible assumption) | simp [*]); have z3 := bkeep2 hb (p := ⟨w.heap.size + 1, 3, none⟩) (v := .float .f64 0) (by first | (with_reducible assumption) | simp [*]); have y3 := bfroz2 hb (p := ⟨w.heap.size + 1, 3, none⟩) (v := .float .f64 0) (by first | (with_reducible assumption) | simp [*]) (by first | (with_reducible assumption) | simp [*])))
  all_goals (go_wp2_with fail; refine bodyPost_ret (v := .agg #[.float .f64 e1, .float .f64 e2, .float .f64 e3, .float .f64 e4]) (by simp [results, Try.results25, go_sem, *]) rfl ⟨rfl, ?_⟩; repeat (with_reducible first | exact Below.refl _ _ | assumption | refine Below.drew ?_ | refine bl_drewN ?_ _ | refine Below.setCell ?_ (by first | omega | (simp; done) | (simp; omega)) _ | refine Below.alloc ?_ (by first | omega | (simp; done) | (simp; omega)) _ | refine bl_next ?_ (by assumption) | refine bl_trans ?_ (by assumption) (by first | omega | (simp; done) | (simp; omega))))

set_option maxHeartbeats 1000000 in
theorem iToBox_w (a b r e1 e2 e3 e4 : Nat)
    (h : ∀ w, Calls Try.prog 25 #[.agg #[.complex .f64 a b, .float .f64 r]] w fun e w' => e = .returned (.agg #[.float .f64 e1, .float .f64 e2, .float .f64 e3, .float .f64 e4]) ∧ Below w.heap.size w w') (w : World) :
    Calls Try.prog 7 #[.agg #[.complex .f64 a b, .float .f64 r]] w fun e w' => e = .returned (.agg #[.float .f64 e1, .float .f64 e2, .float .f64 e3, .float .f64 e4]) ∧ Below w.heap.size w w' := by
  go_enter Try.func7, Try.ntmps7
  go_wp2_with fail
  obtain ⟨w0, hw0⟩ : ∃ v, v = ((w.alloc (.cells #[.complex .f64 a b, .float .f64 r] 26)).alloc (.cells #[.float .f64 0, .float .f64 0, .float .f64 0, .float .f64 0] 32)) := ⟨_, rfl⟩
  rw [← hw0]
  have c00 : w0.cell? ⟨w.heap.size, 0, none⟩ = some (.complex .f64 a b) := by simp [hw0, go_sem]
  have c01 : w0.cell? ⟨w.heap.size, 1, none⟩ = some (.float .f64 r) := by simp [hw0, go_sem]
  have c10 : w0.cell? ⟨w.heap.size + 1, 0, none⟩ = some (.float .f64 0) := by simp [hw0, go_sem]
  have fc10 : w0.frozen? ⟨w.heap.size + 1, 0, none⟩ = false := by simp [hw0, go_sem]
  have c11 : w0.cell? ⟨w.heap.size + 1, 1, none⟩ = some (.float .f64 0) := by simp [hw0, go_sem]
  have fc11 : w0.frozen? ⟨w.heap.size + 1, 1, none⟩ = false := by simp [hw0, go_sem]
  have c12 : w0.cell? ⟨w.heap.size + 1, 2, none⟩ = some (.float .f64 0) := by simp [hw0, go_sem]
  have fc12 : w0.frozen? ⟨w.heap.size + 1, 2, none⟩ = false := by simp [hw0, go_sem]
  have c13 : w0.cell? ⟨w.heap.size + 1, 3, none⟩ = some (.float .f64 0) := by simp [hw0, go_sem]
  have fc13 : w0.frozen? ⟨w.heap.size + 1, 3, none⟩ = false := by simp [hw0, go_sem]
  have s0 : w.heap.size + 1 + 1 ≤ w0.heap.size := by simp [hw0]
  have hB0 : Below w.heap.size w w0 := by
    rw [hw0]
    repeat (with_reducible first | exact Below.refl _ _ | assumption | refine Below.drew ?_ | refine bl_drewN ?_ _ | refine Below.setCell ?_ (by first | omega | (simp; done) | (simp; omega)) _ | refine Below.alloc ?_ (by first | omega | (simp; done) | (simp; omega)) _ | refine bl_next ?_ (by assumption) | refine bl_trans ?_ (by assumption) (by first | omega | (simp; done) | (simp; omega)))
  clear hw0
  go_at_call 25
  refine (h _).mono ?_
  rintro e w1 ⟨rfl, hb1⟩
  have s1 := hb1.size
  try simp at s1
  replace fc10 := bfroz2 hb1 c10 fc10
  replace fc11 := bfroz2 hb1 c11 fc11
  replace fc12 := bfroz2 hb1 c12 fc12
  replace fc13 := bfroz2 hb1 c13 fc13
  replace c00 := bkeep2 hb1 c00
  replace c01 := bkeep2 hb1 c01
  replace c10 := bkeep2 hb1 c10
  replace c11 := bkeep2 hb1 c11
  replace c12 := bkeep2 hb1 c12
  replace c13 := bkeep2 hb1 c13
  have l0 : w.heap.size < w1.heap.size := cell_lt c00
  have l1 : w.heap.size + 1 < w1.heap.size := cell_lt c10
  go_wp2_with fail
  refine bodyPost_ret (v := .agg #[.float .f64 e1, .float .f64 e2, .float .f64 e3, .float .f64 e4]) (by simp [results, Try.results7, go_sem, *]) rfl ⟨rfl, ?_⟩
  repeat (with_reducible first | exact Below.refl _ _ | assumption | refine Below.drew ?_ | refine bl_drewN ?_ _ | refine Below.setCell ?_ (by first | omega | (simp; done) | (simp; omega)) _ | refine Below.alloc ?_ (by first | omega | (simp; done) | (simp; omega)) _ | refine bl_next ?_ (by assumption) | refine bl_trans ?_ (by assumption) (by first | omega | (simp; done) | (simp; omega)))

set_option maxHeartbeats 1000000 in
theorem toDisc_1_w (X1 X2 X3 X4 k1 k2 k3 : Nat)
    (n1 : ∀ w, Calls Try.prog 14 #[.agg #[.float .f64 X1, .float .f64 X2]] w fun e w' => e = .returned (.bool true) ∧ Below w.heap.size w w')
    (nd : ∀ w, Calls Try.prog 46 #[] w fun e w' => e = .returned (.agg #[.complex .f64 k1 k2, .float .f64 k3]) ∧ Below w.heap.size w w') (w : World) :
    Calls Try.prog 28 #[.agg #[.float .f64 X1, .float .f64 X2, .float .f64 X3, .float .f64 X4]] w fun e w' => e = .returned (.agg #[.complex .f64 k1 k2, .float .f64 k3]) ∧ Below w.heap.size w w' := by
  go_enter Try.func28, Try.ntmps28
  go_wp2_with fail
  obtain ⟨w0, hw0⟩ : ∃ v, v = ((w.alloc (.cells #[.float .f64 X1, .float .f64 X2, .float .f64 X3, .float .f64 X4] 32)).alloc (.cells #[.complex .f64 0 0, .float .f64 0] 26)) := ⟨_, rfl⟩
  rw [← hw0]
  have c00 : w0.cell? ⟨w.heap.size, 0, none⟩ = some (.float .f64 X1) := by simp [hw0, go_sem]
  have c01 : w0.cell? ⟨w.heap.size, 1, none⟩ = some (.float .f64 X2) := by simp [hw0, go_sem]
  have c02 : w0.cell? ⟨w.heap.size, 2, none⟩ = some (.float .f64 X3) := by simp [hw0, go_sem]
  have c03 : w0.cell? ⟨w.heap.size, 3, none⟩ = some (.float .f64 X4) := by simp [hw0, go_sem]
  have c10 : w0.cell? ⟨w.heap.size + 1, 0, none⟩ = some (.complex .f64 0 0) := by simp [hw0, go_sem]
  have fc10 : w0.frozen? ⟨w.heap.size + 1, 0, none⟩ = false := by simp [hw0, go_sem]
  have c11 : w0.cell? ⟨w.heap.size + 1, 1, none⟩ = some (.float .f64 0) := by simp [hw0, go_sem]
  have fc11 : w0.frozen? ⟨w.heap.size + 1, 1, none⟩ = false := by simp [hw0, go_sem]
  have s0 : w.heap.size + 1 + 1 ≤ w0.heap.size := by simp [hw0]
  have hB0 : Below w.heap.size w w0 := by
    rw [hw0]
    repeat (with_reducible first | exact Below.refl _ _ | assumption | refine Below.drew ?_ | refine bl_drewN ?_ _ | refine Below.setCell ?_ (by first | omega | (simp; done) | (simp; omega)) _ | refine Below.alloc ?_ (by first | omega | (simp; done) | (simp; omega)) _ | refine bl_next ?_ (by assumption) | refine bl_trans ?_ (by assumption) (by first | omega | (simp; done) | (simp; omega)))
  clear hw0
  go_at_call 14
  refine (n1 _).mono ?_
  rintro e w1 ⟨rfl, hb1⟩
  have s1 := hb1.size
  try simp at s1
  replace fc10 := bfroz2 hb1 c10 fc10
  replace fc11 := bfroz2 hb1 c11 fc11
  replace c00 := bkeep2 hb1 c00
  replace c01 := bkeep2 hb1 c01
  replace c02 := bkeep2 hb1 c02
  replace c03 := bkeep2 hb1 c03
  replace c10 := bkeep2 hb1 c10
  replace c11 := bkeep2 hb1 c11
  have l0 : w.heap.size < w1.heap.size := cell_lt c00
  have l1 : w.heap.size + 1 < w1.heap.size := cell_lt c10
  go_wp2_with fail
  go_at_call 46
  refine (nd _).mono ?_
  rintro e w2 ⟨rfl, hb2⟩
  have s2 := hb2.size
  try simp at s2
  replace fc10 := bfroz2 hb2 c10 fc10
  replace fc11 := bfroz2 hb2 c11 fc11
  replace c00 := bkeep2 hb2 c00
  replace c01 := bkeep2 hb2 c01
  replace c02 := bkeep2 hb2 c02
  replace c03 := bkeep2 hb2 c03
  replace c10 := bkeep2 hb2 c10
  replace c11 := bkeep2 hb2 c11
  have l0 : w.heap.size < w2.heap.size := cell_lt c00
  have l1 : w.heap.size + 1 < w2.heap.size := cell_lt c10
  go_wp2_with fail
  refine bodyPost_ret (v := .agg #[.complex .f64 k1 k2, .float .f64 k3]) (by simp [results, Try.results28, go_sem, *]) rfl ⟨rfl, ?_⟩
  repeat (with_reducible first | exact Below.refl _ _ | assumption | refine Below.drew ?_ | refine bl_drewN ?_ _ | refine Below.setCell ?_ (by first | omega | (simp; done) | (simp; omega)) _ | refine Below.alloc ?_ (by first | omega | (simp; done) | (simp; omega)) _ | refine bl_next ?_ (by assumption) | refine bl_trans ?_ (by assumption) (by first | omega | (simp; done) | (simp; omega)))

set_option maxHeartbeats 1000000 in
theorem toDisc_2_w (X1 X2 X3 X4 k1 k2 k3 : Nat)
    (n1 : ∀ w, Calls Try.prog 14 #[.agg #[.float .f64 X1, .float .f64 X2]] w fun e w' => e = .returned (.bool false) ∧ Below w.heap.size w w')
    (n2 : ∀ w, Calls Try.prog 14 #[.agg #[.float .f64 X3, .float .f64 X4]] w fun e w' => e = .returned (.bool true) ∧ Below w.heap.size w w')
    (nd : ∀ w, Calls Try.prog 46 #[] w fun e w' => e = .returned (.agg #[.complex .f64 k1 k2, .float .f64 k3]) ∧ Below w.heap.size w w') (w : World) :
    Calls Try.prog 28 #[.agg #[.float .f64 X1, .float .f64 X2, .float .f64 X3, .float .f64 X4]] w fun e w' => e = .returned (.agg #[.complex .f64 k1 k2, .float .f64 k3]) ∧ Below w.heap.size w w' := by
  go_enter Try.func28, Try.ntmps28
  go_wp2_with fail
  obtain ⟨w0, hw0⟩ : ∃ v, v = ((w.alloc (.cells #[.float .f64 X1, .float .f64 X2, .float .f64 X3, .float .f64 X4] 32)).alloc (.cells #[.complex .f64 0 0, .float .f64 0] 26)) := ⟨_, rfl⟩
  rw [← hw0]
  have c00 : w0.cell? ⟨w.heap.size, 0, none⟩ = some (.float .f64 X1) := by simp [hw0, go_sem]
  have c01 : w0.cell? ⟨w.heap.size, 1, none⟩ = some (.float .f64 X2) := by simp [hw0, go_sem]
  have c02 : w0.cell? ⟨w.heap.size, 2, none⟩ = some (.float .f64 X3) := by simp [hw0, go_sem]
  have c03 : w0.cell? ⟨w.heap.size, 3, none⟩ = some (.float .f64 X4) := by simp [hw0, go_sem]
  have c10 : w0.cell? ⟨w.heap.size + 1, 0, none⟩ = some (.complex .f64 0 0) := by simp [hw0, go_sem]
  have fc10 : w0.frozen? ⟨w.heap.size + 1, 0, none⟩ = false := by simp [hw0, go_sem]
  have c11 : w0.cell? ⟨w.heap.size + 1, 1, none⟩ = some (.float .f64 0) := by simp [hw0, go_sem]
  have fc11 : w0.frozen? ⟨w.heap.size + 1, 1, none⟩ = false := by simp [hw0, go_sem]
  have s0 : w.heap.size + 1 + 1 ≤ w0.heap.size := by simp [hw0]
  have hB0 : Below w.heap.size w w0 := by
    rw [hw0]
    repeat (with_reducible first | exact Below.refl _ _ | assumption | refine Below.drew ?_ | refine bl_drewN ?_ _ | refine Below.setCell ?_ (by first | omega | (simp; done) | (simp; omega)) _ | refine Below.alloc ?_ (by first | omega | (simp; done) | (simp; omega)) _ | refine bl_next ?_ (by assumption) | refine bl_trans ?_ (by assumption) (by first | omega | (simp; done) | (simp; omega)))
  clear hw0
  go_at_call 14
  refine (n1 _).mono ?_
  rintro e w1 ⟨rfl, hb1⟩
  have s1 := hb1.size
  try simp at s1
  replace fc10 := bfroz2 hb1 c10 fc10
  replace fc11 := bfroz2 hb1 c11 fc11
  replace c00 := bkeep2 hb1 c00
  replace c01 := bkeep2 hb1 c01
  replace c02 := bkeep2 hb1 c02
  replace c03 := bkeep2 hb1 c03
  replace c10 := bkeep2 hb1 c10
  replace c11 := bkeep2 hb1 c11
  have l0 : w.heap.size < w1.heap.size := cell_lt c00
  have l1 : w.heap.size + 1 < w1.heap.size := cell_lt c10
  go_wp2_with fail
  go_at_call 14
  refine (n2 _).mono ?_
  rintro e w2 ⟨rfl, hb2⟩
  have s2 := hb2.size
  try simp at s2
  replace fc10 := bfroz2 hb2 c10 fc10
  replace fc11 := bfroz2 hb2 c11 fc11
  replace c00 := bkeep2 hb2 c00
  replace c01 := bkeep2 hb2 c01
  replace c02 := bkeep2 hb2 c02
  replace c03 := bkeep2 hb2 c03
  replace c10 := bkeep2 hb2 c10
  replace c11 := bkeep2 hb2 c11
  have l0 : w.heap.size < w2.heap.size := cell_lt c00
  have l1 : w.heap.size + 1 < w2.heap.size := cell_lt c10
  go_wp2_with fail
  go_at_call 46
  refine (nd _).mono ?_
  rintro e w3 ⟨rfl, hb3⟩
  have s3 := hb3.size
  try simp at s3
  replace fc10 := bfroz2 hb3 c10 fc10
  replace fc11 := bfroz2 hb3 c11 fc11
  replace c00 := bkeep2 hb3 c00
  replace c01 := bkeep2 hb3 c01
  replace c02 := bkeep2 hb3 c02
  replace c03 := bkeep2 hb3 c03
  replace c10 := bkeep2 hb3 c10
  replace c11 := bkeep2 hb3 c11
  have l0 : w.heap.size < w3.heap.size := cell_lt c00
  have l1 : w.heap.size + 1 < w3.heap.size := cell_lt c10
  go_wp2_with fail
  refine bodyPost_ret (v := .agg #[.complex .f64 k1 k2, .float .f64 k3]) (by simp [results, Try.results28, go_sem, *]) rfl ⟨rfl, ?_⟩
  repeat (with_reducible first | exact Below.refl _ _ | assumption | refine Below.drew ?_ | refine bl_drewN ?_ _ | refine Below.setCell ?_ (by first | omega | (simp; done) | (simp; omega)) _ | refine Below.alloc ?_ (by first | omega | (simp; done) | (simp; omega)) _ | refine bl_next ?_ (by assumption) | refine bl_trans ?_ (by assumption) (by first | omega | (simp; done) | (simp; omega)))

set_option maxHeartbeats 1000000 in
theorem toDisc_w (X1 X2 X3 X4 k1 k2 k3 : Nat)
    (n1 : ∀ w, Calls Try.prog 14 #[.agg #[.float .f64 X1, .float .f64 X2]] w fun e w' => e = .returned (.bool false) ∧ Below w.heap.size w w')
    (n2 : ∀ w, Calls Try.prog 14 #[.agg #[.float .f64 X3, .float .f64 X4]] w fun e w' => e = .returned (.bool false) ∧ Below w.heap.size w w')
    (ar : ∀ w, Calls Try.prog 47 #[.agg #[.float .f64 X1, .float .f64 X2, .float .f64 X3, .float .f64 X4], .float .f64 0] w fun e w' => e = .returned (.agg #[.complex .f64 k1 k2, .float .f64 k3]) ∧ Below w.heap.size w w') (w : World) :
    Calls Try.prog 28 #[.agg #[.float .f64 X1, .float .f64 X2, .float .f64 X3, .float .f64 X4]] w fun e w' => e = .returned (.agg #[.complex .f64 k1 k2, .float .f64 k3]) ∧ Below w.heap.size w w' := by
  go_enter Try.func28, Try.ntmps28
  go_wp2_with fail
  obtain ⟨w0, hw0⟩ : ∃ v, v = ((w.alloc (.cells #[.float .f64 X1, .float .f64 X2, .float .f64 X3, .float .f64 X4] 32)).alloc (.cells #[.complex .f64 0 0, .float .f64 0] 26)) := ⟨_, rfl⟩
  rw [← hw0]
  have c00 : w0.cell? ⟨w.heap.size, 0, none⟩ = some (.float .f64 X1) := by simp [hw0, go_sem]
  have c01 : w0.cell? ⟨w.heap.size, 1, none⟩ = some (.float .f64 X2) := by simp [hw0, go_sem]
  have c02 : w0.cell? ⟨w.heap.size, 2, none⟩ = some (.float .f64 X3) := by simp [hw0, go_sem]
  have c03 : w0.cell? ⟨w.heap.size, 3, none⟩ = some (.float .f64 X4) := by simp [hw0, go_sem]
  have c10 : w0.cell? ⟨w.heap.size + 1, 0, none⟩ = some (.complex .f64 0 0) := by simp [hw0, go_sem]
  have fc10 : w0.frozen? ⟨w.heap.size + 1, 0, none⟩ = false := by simp [hw0, go_sem]
  have c11 : w0.cell? ⟨w.heap.size + 1, 1, none⟩ = some (.float .f64 0) := by simp [hw0, go_sem]
  have fc11 : w0.frozen? ⟨w.heap.size + 1, 1, none⟩ = false := by simp [hw0, go_sem]
  have s0 : w.heap.size + 1 + 1 ≤ w0.heap.size := by simp [hw0]
  have hB0 : Below w.heap.size w w0 := by
    rw [hw0]
    repeat (with_reducible first | exact Below.refl _ _ | assumption | refine Below.drew ?_ | refine bl_drewN ?_ _ | refine Below.setCell ?_ (by first | omega | (simp; done) | (simp; omega)) _ | refine Below.alloc ?_ (by first | omega | (simp; done) | (simp; omega)) _ | refine bl_next ?_ (by assumption) | refine bl_trans ?_ (by assumption) (by first | omega | (simp; done) | (simp; omega)))
  clear hw0
  go_at_call 14
  refine (n1 _).mono ?_
  rintro e w1 ⟨rfl, hb1⟩
  have s1 := hb1.size
  try simp at s1
  replace fc10 := bfroz2 hb1 c10 fc10
  replace fc11 := bfroz2 hb1 c11 fc11
  replace c00 := bkeep2 hb1 c00
  replace c01 := bkeep2 hb1 c01
  replace c02 := bkeep2 hb1 c02
  replace c03 := bkeep2 hb1 c03
  replace c10 := bkeep2 hb1 c10
  replace c11 := bkeep2 hb1 c11
  have l0 : w.heap.size < w1.heap.size := cell_lt c00
  have l1 : w.heap.size + 1 < w1.heap.size := cell_lt c10
  go_wp2_with fail
  go_at_call 14
  refine (n2 _).mono ?_
  rintro e w2 ⟨rfl, hb2⟩
  have s2 := hb2.size
  try simp at s2
  replace fc10 := bfroz2 hb2 c10 fc10
  replace fc11 := bfroz2 hb2 c11 fc11
  replace c00 := bkeep2 hb2 c00
  replace c01 := bkeep2 hb2 c01
  replace c02 := bkeep2 hb2 c02
  replace c03 := bkeep2 hb2 c03
  replace c10 := bkeep2 hb2 c10
  replace c11 := bkeep2 hb2 c11
  have l0 : w.heap.size < w2.heap.size := cell_lt c00
  have l1 : w.heap.size + 1 < w2.heap.size := cell_lt c10
  go_wp2_with fail
  go_at_call 47
  refine (ar _).mono ?_
  rintro e w3 ⟨rfl, hb3⟩
  have s3 := hb3.size
  try simp at s3
  replace fc10 := bfroz2 hb3 c10 fc10
  replace fc11 := bfroz2 hb3 c11 fc11
  replace c00 := bkeep2 hb3 c00
  replace c01 := bkeep2 hb3 c01
  replace c02 := bkeep2 hb3 c02
  replace c03 := bkeep2 hb3 c03
  replace c10 := bkeep2 hb3 c10
  replace c11 := bkeep2 hb3 c11
  have l0 : w.heap.size < w3.heap.size := cell_lt c00
  have l1 : w.heap.size + 1 < w3.heap.size := cell_lt c10
  go_wp2_with fail
  refine bodyPost_ret (v := .agg #[.complex .f64 k1 k2, .float .f64 k3]) (by simp [results, Try.results28, go_sem, *]) rfl ⟨rfl, ?_⟩
  repeat (with_reducible first | exact Below.refl _ _ | assumption | refine Below.drew ?_ | refine bl_drewN ?_ _ | refine Below.setCell ?_ (by first | omega | (simp; done) | (simp; omega)) _ | refine Below.alloc ?_ (by first | omega | (simp; done) | (simp; omega)) _ | refine bl_next ?_ (by assumption) | refine bl_trans ?_ (by assumption) (by first | omega | (simp; done) | (simp; omega)))

set_option maxHeartbeats 1000000 in
theorem iToDisc_w (X1 X2 X3 X4 k1 k2 k3 : Nat)
    (h : ∀ w, Calls Try.prog 28 #[.agg #[.float .f64 X1, .float .f64 X2, .float .f64 X3, .float .f64 X4]] w fun e w' => e = .returned (.agg #[.complex .f64 k1 k2, .float .f64 k3]) ∧ Below w.heap.size w w') (w : World) :
    Calls Try.prog 10 #[.agg #[.float .f64 X1, .float .f64 X2, .float .f64 X3, .float .f64 X4]] w fun e w' => e = .returned (.agg #[.complex .f64 k1 k2, .float .f64 k3]) ∧ Below w.heap.size w w' := by
  go_enter Try.func10, Try.ntmps10
  go_wp2_with fail
  obtain ⟨w0, hw0⟩ : ∃ v, v = ((w.alloc (.cells #[.float .f64 X1, .float .f64 X2, .float .f64 X3, .float .f64 X4] 32)).alloc (.cells #[.complex .f64 0 0, .float .f64 0] 26)) := ⟨_, rfl⟩
  rw [← hw0]
  have c00 : w0.cell? ⟨w.heap.size, 0, none⟩ = some (.float .f64 X1) := by simp [hw0, go_sem]
  have c01 : w0.cell? ⟨w.heap.size, 1, none⟩ = some (.float .f64 X2) := by simp [hw0, go_sem]
  have c02 : w0.cell? ⟨w.heap.size, 2, none⟩ = some (.float .f64 X3) := by simp [hw0, go_sem]
  have c03 : w0.cell? ⟨w.heap.size, 3, none⟩ = some (.float .f64 X4) := by simp [hw0, go_sem]
  have c10 : w0.cell? ⟨w.heap.size + 1, 0, none⟩ = some (.complex .f64 0 0) := by simp [hw0, go_sem]
  have fc10 : w0.frozen? ⟨w.heap.size + 1, 0, none⟩ = false := by simp [hw0, go_sem]
  have c11 : w0.cell? ⟨w.heap.size + 1, 1, none⟩ = some (.float .f64 0) := by simp [hw0, go_sem]
  have fc11 : w0.frozen? ⟨w.heap.size + 1, 1, none⟩ = false := by simp [hw0, go_sem]
  have s0 : w.heap.size + 1 + 1 ≤ w0.heap.size := by simp [hw0]
  have hB0 : Below w.heap.size w w0 := by
    rw [hw0]
    repeat (with_reducible first | exact Below.refl _ _ | assumption | refine Below.drew ?_ | refine bl_drewN ?_ _ | refine Below.setCell ?_ (by first | omega | (simp; done) | (simp; omega)) _ | refine Below.alloc ?_ (by first | omega | (simp; done) | (simp; omega)) _ | refine bl_next ?_ (by assumption) | refine bl_trans ?_ (by assumption) (by first | omega | (simp; done) | (simp; omega)))
  clear hw0
  go_at_call 28
  refine (h _).mono ?_
  rintro e w1 ⟨rfl, hb1⟩
  have s1 := hb1.size
  try simp at s1
  replace fc10 := bfroz2 hb1 c10 fc10
  replace fc11 := bfroz2 hb1 c11 fc11
  replace c00 := bkeep2 hb1 c00
  replace c01 := bkeep2 hb1 c01
  replace c02 := bkeep2 hb1 c02
  replace c03 := bkeep2 hb1 c03
  replace c10 := bkeep2 hb1 c10
  replace c11 := bkeep2 hb1 c11
  have l0 : w.heap.size < w1.heap.size := cell_lt c00
  have l1 : w.heap.size + 1 < w1.heap.size := cell_lt c10
  go_wp2_with fail
  refine bodyPost_ret (v := .agg #[.complex .f64 k1 k2, .float .f64 k3]) (by simp [results, Try.results10, go_sem, *]) rfl ⟨rfl, ?_⟩
  repeat (with_reducible first | exact Below.refl _ _ | assumption | refine Below.drew ?_ | refine bl_drewN ?_ _ | refine Below.setCell ?_ (by first | omega | (simp; done) | (simp; omega)) _ | refine Below.alloc ?_ (by first | omega | (simp; done) | (simp; omega)) _ | refine bl_next ?_ (by assumption) | refine bl_trans ?_ (by assumption) (by first | omega | (simp; done) | (simp; omega)))

end Go.Proofs.Ytacnclofbnafiab
