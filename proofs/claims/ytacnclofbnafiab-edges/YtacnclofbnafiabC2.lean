import Derived.Test.YtacnclofbnafiabC1
namespace Go.Proofs.Ytacnclofbnafiab
open Go.RowKit Fl

@[go_sem] theorem run_store_complex {P : Program} {w : World} {a : Addr} {m : Mode} (k : FloatKind) (b c : Nat) : (store a (.complex k b c) m).run P w = stored P w a (.complex k b c) m := run_store P w a _ m rfl
set_option maxHeartbeats 1000000 in
theorem point_w (a b : Nat) (w : World) :
    Calls Try.prog 44 #[.complex .f64 a b] w fun e w' => e = .returned (.agg #[.float .f64 a, .float .f64 a, .float .f64 b, .float .f64 b]) ∧ Below w.heap.size w w' := by
  go_enter Try.func44, Try.ntmps44
  go_wp2_with fail
  refine bodyPost_ret (v := .agg #[.float .f64 a, .float .f64 a, .float .f64 b, .float .f64 b]) (by simp [results, Try.results44, go_sem, *]) rfl ⟨rfl, ?_⟩
  repeat (with_reducible first | exact Below.refl _ _ | assumption | refine Below.drew ?_ | refine bl_drewN ?_ _ | refine Below.setCell ?_ (by first | omega | (simp; done) | (simp; omega)) _ | refine Below.alloc ?_ (by first | omega | (simp; done) | (simp; omega)) _ | refine bl_next ?_ (by assumption) | refine bl_trans ?_ (by assumption) (by first | omega | (simp; done) | (simp; omega)))

set_option maxHeartbeats 1000000 in
theorem square_w (r n : Nat)
    (g : Op.unary .neg (.float .f64 r) = pure (.float .f64 n)) (w : World) :
    Calls Try.prog 45 #[.float .f64 r] w fun e w' => e = .returned (.agg #[.float .f64 n, .float .f64 r, .float .f64 n, .float .f64 r]) ∧ Below w.heap.size w w' := by
  go_enter Try.func45, Try.ntmps45
  go_wp2_with fail
  refine bodyPost_ret (v := .agg #[.float .f64 n, .float .f64 r, .float .f64 n, .float .f64 r]) (by simp [results, Try.results45, go_sem, *]) rfl ⟨rfl, ?_⟩
  repeat (with_reducible first | exact Below.refl _ _ | assumption | refine Below.drew ?_ | refine bl_drewN ?_ _ | refine Below.setCell ?_ (by first | omega | (simp; done) | (simp; omega)) _ | refine Below.alloc ?_ (by first | omega | (simp; done) | (simp; omega)) _ | refine bl_next ?_ (by assumption) | refine bl_trans ?_ (by assumption) (by first | omega | (simp; done) | (simp; omega)))

set_option maxHeartbeats 1000000 in
theorem noDisc_w  (w : World) :
    Calls Try.prog 46 #[] w fun e w' => e = .returned (.agg #[.complex .f64 0 0, .float .f64 13830554455654793216]) ∧ Below w.heap.size w w' := by
  go_enter Try.func46, Try.ntmps46
  go_wp2_with fail
  refine bodyPost_ret (v := .agg #[.complex .f64 0 0, .float .f64 13830554455654793216]) (by simp [results, Try.results46, go_sem, *]) rfl ⟨rfl, ?_⟩
  repeat (with_reducible first | exact Below.refl _ _ | assumption | refine Below.drew ?_ | refine bl_drewN ?_ _ | refine Below.setCell ?_ (by first | omega | (simp; done) | (simp; omega)) _ | refine Below.alloc ?_ (by first | omega | (simp; done) | (simp; omega)) _ | refine bl_next ?_ (by assumption) | refine bl_trans ?_ (by assumption) (by first | omega | (simp; done) | (simp; omega)))

set_option maxHeartbeats 1000000 in
theorem allDisc_w (i : Nat)
    (h : ∀ w, Calls Try.prog 30 #[.int .i64 1] w fun e w' => e = .returned (.float .f64 i) ∧ w' = w) (w : World) :
    Calls Try.prog 61 #[] w fun e w' => e = .returned (.agg #[.complex .f64 0 0, .float .f64 i]) ∧ Below w.heap.size w w' := by
  go_enter Try.func61, Try.ntmps61
  go_wp2_with fail
  obtain ⟨w0, hw0⟩ : ∃ v, v = (w.alloc (.cells #[.complex .f64 0 0, .float .f64 0] 26)) := ⟨_, rfl⟩
  rw [← hw0]
  have c00 : w0.cell? ⟨w.heap.size, 0, none⟩ = some (.complex .f64 0 0) := by simp [hw0, go_sem]
  have fc00 : w0.frozen? ⟨w.heap.size, 0, none⟩ = false := by simp [hw0, go_sem]
  have c01 : w0.cell? ⟨w.heap.size, 1, none⟩ = some (.float .f64 0) := by simp [hw0, go_sem]
  have fc01 : w0.frozen? ⟨w.heap.size, 1, none⟩ = false := by simp [hw0, go_sem]
  have s0 : w.heap.size + 1 ≤ w0.heap.size := by simp [hw0]
  have hB0 : Below w.heap.size w w0 := by
    rw [hw0]
    repeat (with_reducible first | exact Below.refl _ _ | assumption | refine Below.drew ?_ | refine bl_drewN ?_ _ | refine Below.setCell ?_ (by first | omega | (simp; done) | (simp; omega)) _ | refine Below.alloc ?_ (by first | omega | (simp; done) | (simp; omega)) _ | refine bl_next ?_ (by assumption) | refine bl_trans ?_ (by assumption) (by first | omega | (simp; done) | (simp; omega)))
  clear hw0
  go_at_call 30
  refine (h _).mono ?_
  rintro e w' ⟨rfl, rfl⟩
  go_wp2_with fail
  refine bodyPost_ret (v := .agg #[.complex .f64 0 0, .float .f64 i]) (by simp [results, Try.results61, go_sem, *]) rfl ⟨rfl, ?_⟩
  repeat (with_reducible first | exact Below.refl _ _ | assumption | refine Below.drew ?_ | refine bl_drewN ?_ _ | refine Below.setCell ?_ (by first | omega | (simp; done) | (simp; omega)) _ | refine Below.alloc ?_ (by first | omega | (simp; done) | (simp; omega)) _ | refine bl_next ?_ (by assumption) | refine bl_trans ?_ (by assumption) (by first | omega | (simp; done) | (simp; omega)))

set_option maxHeartbeats 1000000 in
theorem around_e1_w (X1 X2 X3 X4 rad i : Nat)
    (e1 : ∀ w, Calls Try.prog 60 #[.agg #[.float .f64 X1, .float .f64 X2]] w fun e w' => e = .returned (.bool true) ∧ Below w.heap.size w w')
    (ad : ∀ w, Calls Try.prog 61 #[] w fun e w' => e = .returned (.agg #[.complex .f64 0 0, .float .f64 i]) ∧ Below w.heap.size w w') (w : World) :
    Calls Try.prog 47 #[.agg #[.float .f64 X1, .float .f64 X2, .float .f64 X3, .float .f64 X4], .float .f64 rad] w fun e w' => e = .returned (.agg #[.complex .f64 0 0, .float .f64 i]) ∧ Below w.heap.size w w' := by
  go_enter Try.func47, Try.ntmps47
  go_wp2_with fail
  obtain ⟨w0, hw0⟩ : ∃ v, v = ((w.alloc (.cells #[.float .f64 X1, .float .f64 X2, .float .f64 X3, .float .f64 X4] 32)).alloc (.cells #[.complex .f64 0 0, .float .f64 0] 26)) := ⟨_, rfl⟩
  rw [← hw0]
  have c00 : w0.cell? ⟨w.heap.size, 0, none⟩ = some (.float .f64 X1) := by simp [hw0, go_sem]
  have c01 : w0.cell? ⟨w.heap.size, 1, none⟩ = some (.float .f64 X2) := by simp [hw0, go_sem]
  have c02 : w0.cell? ⟨w.heap.size, 2, none⟩ = some (.float .f64 X3) := by simp [hw0, go_sem]
  have c03 : w0.cell? ⟨w.heap.size, 3, none⟩ = some (.float .f64 X4) := by simp [hw0, go_sem]
  have c10 : w0.cell? ⟨w.heap.size + 1, 0, none⟩ = some (.complex .f64 0 0) := by simp [hw0, go_sem]
  have fc10 : w0.frozen? ⟨w.heap.size + 1, 0, none⟩ = false := by simp [hw0, go_sem]
  have c11 : w0.cell? ⟨w.heap.size + 1, 1, none⟩ = some (.float .f64 0) := by simp [hw0, go_sem]
  have fc11 : w0.frozen? ⟨w.heap.size + 1, 1, none⟩ = false := by simp [hw0, go_sem]
  have s0 : w.heap.size + 1 + 1 ≤ w0.heap.size := by simp [hw0]
  have hB0 : Below w.heap.size w w0 := by
    rw [hw0]
    repeat (with_reducible first | exact Below.refl _ _ | assumption | refine Below.drew ?_ | refine bl_drewN ?_ _ | refine Below.setCell ?_ (by first | omega | (simp; done) | (simp; omega)) _ | refine Below.alloc ?_ (by first | omega | (simp; done) | (simp; omega)) _ | refine bl_next ?_ (by assumption) | refine bl_trans ?_ (by assumption) (by first | omega | (simp; done) | (simp; omega)))
  clear hw0
  go_at_call 60
  refine (e1 _).mono ?_
  rintro e w1 ⟨rfl, hb1⟩
  have s1 := hb1.size
  try simp at s1
  replace fc10 := bfroz2 hb1 c10 fc10
  replace fc11 := bfroz2 hb1 c11 fc11
  replace c00 := bkeep2 hb1 c00
  replace c01 := bkeep2 hb1 c01
  replace c02 := bkeep2 hb1 c02
  replace c03 := bkeep2 hb1 c03
  replace c10 := bkeep2 hb1 c10
  replace c11 := bkeep2 hb1 c11
  have l0 : w.heap.size < w1.heap.size := cell_lt c00
  have l1 : w.heap.size + 1 < w1.heap.size := cell_lt c10
  go_wp2_with fail
  go_at_call 61
  refine (ad _).mono ?_
  rintro e w2 ⟨rfl, hb2⟩
  have s2 := hb2.size
  try simp at s2
  replace fc10 := bfroz2 hb2 c10 fc10
  replace fc11 := bfroz2 hb2 c11 fc11
  replace c00 := bkeep2 hb2 c00
  replace c01 := bkeep2 hb2 c01
  replace c02 := bkeep2 hb2 c02
  replace c03 := bkeep2 hb2 c03
  replace c10 := bkeep2 hb2 c10
  replace c11 := bkeep2 hb2 c11
  have l0 : w.heap.size < w2.heap.size := cell_lt c00
  have l1 : w.heap.size + 1 < w2.heap.size := cell_lt c10
  go_wp2_with fail
  refine bodyPost_ret (v := .agg #[.complex .f64 0 0, .float .f64 i]) (by simp [results, Try.results47, go_sem, *]) rfl ⟨rfl, ?_⟩
  repeat (with_reducible first | exact Below.refl _ _ | assumption | refine Below.drew ?_ | refine bl_drewN ?_ _ | refine Below.setCell ?_ (by first | omega | (simp; done) | (simp; omega)) _ | refine Below.alloc ?_ (by first | omega | (simp; done) | (simp; omega)) _ | refine bl_next ?_ (by assumption) | refine bl_trans ?_ (by assumption) (by first | omega | (simp; done) | (simp; omega)))

set_option maxHeartbeats 1000000 in
theorem around_e2_w (X1 X2 X3 X4 rad i : Nat)
    (e1 : ∀ w, Calls Try.prog 60 #[.agg #[.float .f64 X1, .float .f64 X2]] w fun e w' => e = .returned (.bool false) ∧ Below w.heap.size w w')
    (e2 : ∀ w, Calls Try.prog 60 #[.agg #[.float .f64 X3, .float .f64 X4]] w fun e w' => e = .returned (.bool true) ∧ Below w.heap.size w w')
    (ad : ∀ w, Calls Try.prog 61 #[] w fun e w' => e = .returned (.agg #[.complex .f64 0 0, .float .f64 i]) ∧ Below w.heap.size w w') (w : World) :
    Calls Try.prog 47 #[.agg #[.float .f64 X1, .float .f64 X2, .float .f64 X3, .float .f64 X4], .float .f64 rad] w fun e w' => e = .returned (.agg #[.complex .f64 0 0, .float .f64 i]) ∧ Below w.heap.size w w' := by
  go_enter Try.func47, Try.ntmps47
  go_wp2_with fail
  obtain ⟨w0, hw0⟩ : ∃ v, v = ((w.alloc (.cells #[.float .f64 X1, .float .f64 X2, .float .f64 X3, .float .f64 X4] 32)).alloc (.cells #[.complex .f64 0 0, .float .f64 0] 26)) := ⟨_, rfl⟩
  rw [← hw0]
  have c00 : w0.cell? ⟨w.heap.size, 0, none⟩ = some (.float .f64 X1) := by simp [hw0, go_sem]
  have c01 : w0.cell? ⟨w.heap.size, 1, none⟩ = some (.float .f64 X2) := by simp [hw0, go_sem]
  have c02 : w0.cell? ⟨w.heap.size, 2, none⟩ = some (.float .f64 X3) := by simp [hw0, go_sem]
  have c03 : w0.cell? ⟨w.heap.size, 3, none⟩ = some (.float .f64 X4) := by simp [hw0, go_sem]
  have c10 : w0.cell? ⟨w.heap.size + 1, 0, none⟩ = some (.complex .f64 0 0) := by simp [hw0, go_sem]
  have fc10 : w0.frozen? ⟨w.heap.size + 1, 0, none⟩ = false := by simp [hw0, go_sem]
  have c11 : w0.cell? ⟨w.heap.size + 1, 1, none⟩ = some (.float .f64 0) := by simp [hw0, go_sem]
  have fc11 : w0.frozen? ⟨w.heap.size + 1, 1, none⟩ = false := by simp [hw0, go_sem]
  have s0 : w.heap.size + 1 + 1 ≤ w0.heap.size := by simp [hw0]
  have hB0 : Below w.heap.size w w0 := by
    rw [hw0]
    repeat (with_reducible first | exact Below.refl _ _ | assumption | refine Below.drew ?_ | refine bl_drewN ?_ _ | refine Below.setCell ?_ (by first | omega | (simp; done) | (simp; omega)) _ | refine Below.alloc ?_ (by first | omega | (simp; done) | (simp; omega)) _ | refine bl_next ?_ (by assumption) | refine bl_trans ?_ (by assumption) (by first | omega | (simp; done) | (simp; omega)))
  clear hw0
  go_at_call 60
  refine (e1 _).mono ?_
  rintro e w1 ⟨rfl, hb1⟩
  have s1 := hb1.size
  try simp at s1
  replace fc10 := bfroz2 hb1 c10 fc10
  replace fc11 := bfroz2 hb1 c11 fc11
  replace c00 := bkeep2 hb1 c00
  replace c01 := bkeep2 hb1 c01
  replace c02 := bkeep2 hb1 c02
  replace c03 := bkeep2 hb1 c03
  replace c10 := bkeep2 hb1 c10
  replace c11 := bkeep2 hb1 c11
  have l0 : w.heap.size < w1.heap.size := cell_lt c00
  have l1 : w.heap.size + 1 < w1.heap.size := cell_lt c10
  go_wp2_with fail
  go_at_call 60
  refine (e2 _).mono ?_
  rintro e w2 ⟨rfl, hb2⟩
  have s2 := hb2.size
  try simp at s2
  replace fc10 := bfroz2 hb2 c10 fc10
  replace fc11 := bfroz2 hb2 c11 fc11
  replace c00 := bkeep2 hb2 c00
  replace c01 := bkeep2 hb2 c01
  replace c02 := bkeep2 hb2 c02
  replace c03 := bkeep2 hb2 c03
  replace c10 := bkeep2 hb2 c10
  replace c11 := bkeep2 hb2 c11
  have l0 : w.heap.size < w2.heap.size := cell_lt c00
  have l1 : w.heap.size + 1 < w2.heap.size := cell_lt c10
  go_wp2_with fail
  go_at_call 61
  refine (ad _).mono ?_
  rintro e w3 ⟨rfl, hb3⟩
  have s3 := hb3.size
  try simp at s3
  replace fc10 := bfroz2 hb3 c10 fc10
  replace fc11 := bfroz2 hb3 c11 fc11
  replace c00 := bkeep2 hb3 c00
  replace c01 := bkeep2 hb3 c01
  replace c02 := bkeep2 hb3 c02
  replace c03 := bkeep2 hb3 c03
  replace c10 := bkeep2 hb3 c10
  replace c11 := bkeep2 hb3 c11
  have l0 : w.heap.size < w3.heap.size := cell_lt c00
  have l1 : w.heap.size + 1 < w3.heap.size := cell_lt c10
  go_wp2_with fail
  refine bodyPost_ret (v := .agg #[.complex .f64 0 0, .float .f64 i]) (by simp [results, Try.results47, go_sem, *]) rfl ⟨rfl, ?_⟩
  repeat (with_reducible first | exact Below.refl _ _ | assumption | refine Below.drew ?_ | refine bl_drewN ?_ _ | refine Below.setCell ?_ (by first | omega | (simp; done) | (simp; omega)) _ | refine Below.alloc ?_ (by first | omega | (simp; done) | (simp; omega)) _ | refine bl_next ?_ (by assumption) | refine bl_trans ?_ (by assumption) (by first | omega | (simp; done) | (simp; omega)))

set_option maxHeartbeats 2000000 in
theorem around_t_w (X1 X2 X3 X4 rad u v p q l t i : Nat)
    (e1 : ∀ w, Calls Try.prog 60 #[.agg #[.float .f64 X1, .float .f64 X2]] w fun e w' => e = .returned (.bool false) ∧ Below w.heap.size w w')
    (e2 : ∀ w, Calls Try.prog 60 #[.agg #[.float .f64 X3, .float .f64 X4]] w fun e w' => e = .returned (.bool false) ∧ Below w.heap.size w w')
    (m1 : ∀ w, Calls Try.prog 62 #[.agg #[.float .f64 X1, .float .f64 X2]] w fun e w' => e = .returned (.float .f64 u) ∧ Below w.heap.size w w')
    (m2 : ∀ w, Calls Try.prog 62 #[.agg #[.float .f64 X3, .float .f64 X4]] w fun e w' => e = .returned (.float .f64 v) ∧ Below w.heap.size w w')
    (r1 : ∀ w, Calls Try.prog 65 #[.agg #[.float .f64 X1, .float .f64 X2], .float .f64 u] w fun e w' => e = .returned (.float .f64 p) ∧ Below w.heap.size w w')
    (r2 : ∀ w, Calls Try.prog 65 #[.agg #[.float .f64 X3, .float .f64 X4], .float .f64 v] w fun e w' => e = .returned (.float .f64 q) ∧ Below w.heap.size w w')
    (le : ∀ w, Calls Try.prog 64 #[.float .f64 p, .float .f64 q] w fun e w' => e = .returned (.float .f64 l) ∧ Below w.heap.size w w')
    (ua : ∀ w, Calls Try.prog 63 #[.float .f64 l, .float .f64 rad] w fun e w' => e = .returned (.float .f64 t) ∧ Below w.heap.size w w')
    (fi : ∀ w, Calls Try.prog 21 #[.float .f64 t, .int .i64 1] w fun e w' => e = .returned (.bool true) ∧ w' = w)
    (ad : ∀ w, Calls Try.prog 61 #[] w fun e w' => e = .returned (.agg #[.complex .f64 0 0, .float .f64 i]) ∧ Below w.heap.size w w') (w : World) :
    Calls Try.prog 47 #[.agg #[.float .f64 X1, .float .f64 X2, .float .f64 X3, .float .f64 X4], .float .f64 rad] w fun e w' => e = .returned (.agg #[.complex .f64 0 0, .float .f64 i]) ∧ Below w.heap.size w w' := by
  go_enter Try.func47, Try.ntmps47
  go_wp2_with fail
  obtain ⟨w0, hw0⟩ : ∃ v, v = ((w.alloc (.cells #[.float .f64 X1, .float .f64 X2, .float .f64 X3, .float .f64 X4] 32)).alloc (.cells #[.complex .f64 0 0, .float .f64 0] 26)) := ⟨_, rfl⟩
  rw [← hw0]
  have c00 : w0.cell? ⟨w.heap.size, 0, none⟩ = some (.float .f64 X1) := by simp [hw0, go_sem]
  have c01 : w0.cell? ⟨w.heap.size, 1, none⟩ = some (.float .f64 X2) := by simp [hw0, go_sem]
  have c02 : w0.cell? ⟨w.heap.size, 2, none⟩ = some (.float .f64 X3) := by simp [hw0, go_sem]
  have c03 : w0.cell? ⟨w.heap.size, 3, none⟩ = some (.float .f64 X4) := by simp [hw0, go_sem]
  have c10 : w0.cell? ⟨w.heap.size + 1, 0, none⟩ = some (.complex .f64 0 0) := by simp [hw0, go_sem]
  have fc10 : w0.frozen? ⟨w.heap.size + 1, 0, none⟩ = false := by simp [hw0, go_sem]
  have c11 : w0.cell? ⟨w.heap.size + 1, 1, none⟩ = some (.float .f64 0) := by simp [hw0, go_sem]
  have fc11 : w0.frozen? ⟨w.heap.size + 1, 1, none⟩ = false := by simp [hw0, go_sem]
  have s0 : w.heap.size + 1 + 1 ≤ w0.heap.size := by simp [hw0]
  have hB0 : Below w.heap.size w w0 := by
    rw [hw0]
    repeat (with_reducible first | exact Below.refl _ _ | assumption | refine Below.drew ?_ | refine bl_drewN ?_ _ | refine Below.setCell ?_ (by first | omega | (simp; done) | (simp; omega)) _ | refine Below.alloc ?_ (by first | omega | (simp; done) | (simp; omega)) _ | refine bl_next ?_ (by assumption) | refine bl_trans ?_ (by assumption) (by first | omega | (simp; done) | (simp; omega)))
  clear hw0
  go_at_call 60
  refine (e1 _).mono ?_
  rintro e w1 ⟨rfl, hb1⟩
  have s1 := hb1.size
  try simp at s1
  replace fc10 := bfroz2 hb1 c10 fc10
  replace fc11 := bfroz2 hb1 c11 fc11
  replace c00 := bkeep2 hb1 c00
  replace c01 := bkeep2 hb1 c01
  replace c02 := bkeep2 hb1 c02
  replace c03 := bkeep2 hb1 c03
  replace c10 := bkeep2 hb1 c10
  replace c11 := bkeep2 hb1 c11
  have l0 : w.heap.size < w1.heap.size := cell_lt c00
  have l1 : w.heap.size + 1 < w1.heap.size := cell_lt c10
  go_wp2_with fail
  go_at_call 60
  refine (e2 _).mono ?_
  rintro e w2 ⟨rfl, hb2⟩
  have s2 := hb2.size
  try simp at s2
  replace fc10 := bfroz2 hb2 c10 fc10
  replace fc11 := bfroz2 hb2 c11 fc11
  replace c00 := bkeep2 hb2 c00
  replace c01 := bkeep2 hb2 c01
  replace c02 := bkeep2 hb2 c02
  replace c03 := bkeep2 hb2 c03
  replace c10 := bkeep2 hb2 c10
  replace c11 := bkeep2 hb2 c11
  have l0 : w.heap.size < w2.heap.size := cell_lt c00
  have l1 : w.heap.size + 1 < w2.heap.size := cell_lt c10
  go_wp2_with fail
  go_region_held3 (fun w' => w'.cell? ⟨w.heap.size, 0, none⟩ = some (.float .f64 X1) ∧ w'.cell? ⟨w.heap.size, 1, none⟩ = some (.float .f64 X2) ∧ w'.cell? ⟨w.heap.size, 2, none⟩ = some (.float .f64 X3) ∧ w'.cell? ⟨w.heap.size, 3, none⟩ = some (.float .f64 X4)) (((try dsimp only); (try go_split_ands); (repeat' apply And.intro) <;> first | (with_reducible assumption) | (rw [set_other (by first | omega | (simp; done) | (simp; omega)), set_other (by first | omega | (simp; done) | (simp; omega))]; (with_reducible assumption)) | (with_reducible refine bkeep2 hb ?_; first | (with_reducible assumption) | (simp [*]; done)) | go_keep)) (first | (go_at_call 62; with_reducible refine (m1 _).mono ?_; rintro e w' ⟨rfl, hb⟩; have z0 := bkeep2 hb (p := ⟨w.heap.size + 1, 0, none⟩) (v := .complex .f64 0 0) (by first | (with_reducible assumption) | simp [*]); have y0 := bfroz2 hb (p := ⟨w.heap.size + 1, 0, none⟩) (v := .complex .f64 0 0) (by first | (with_reducible assumption) | simp [*]) (by first | (with_reducible assumption) | simp [*]); have z1 := bkeep2 hb (p := ⟨w.heap.size + 1, 1, none⟩) (v := .float .f64 0) (by first | (with_reducible assumption) | simp [*]); have y1 := bfroz2 hb (p := ⟨w.heap.size + 1, 1, none⟩) (v := .float .f64 0) (by first | (with_reducible assumption) | simp [*]) (by first | (with_reducible assumption) | simp [*])) | (go_at_call 62; with_reducible refine (m2 _).mono ?_; rintro e w' ⟨rfl, hb⟩; have z0 := bkeep2 hb (p := ⟨w.heap.size + 1, 0, none⟩) (v := .complex .f64 0 0) (by first | (with_reducible assumption) | simp [*]); have y0 := bfroz2 hb (p := ⟨w.heap.size + 1, 0, none⟩) (v := .complex .f64 0 0) (by first | (with_reducible assumption) | simp [*]) (by first | (with_reducible assumption) | simp [*]); have z1 := bkeep2 hb (p := ⟨w.heap.size + 1, 1, none⟩) (v := .float .f64 0) (by first | (with_reducible assumption) | simp [*]); have y1 := bfroz2 hb (p := ⟨w.heap.size + 1, 1, none⟩) (v := .float .f64 0) (by first | (with_reducible assumption) | simp [*]) (by first | (with_reducible assumption) | simp [*])))
  go_wp2_with fail
  go_region_held3 (fun w' => w'.cell? ⟨w.heap.size, 0, none⟩ = some (.float .f64 X1) ∧ w'.cell? ⟨w.heap.size, 1, none⟩ = some (.float .f64 X2) ∧ w'.cell? ⟨w.heap.size, 2, none⟩ = some (.float .f64 X3) ∧ w'.cell? ⟨w.heap.size, 3, none⟩ = some (.float .f64 X4)) (((try dsimp only); (try go_split_ands); (repeat' apply And.intro) <;> first | (with_reducible assumption) | (rw [set_other (by first | omega | (simp; done) | (simp; omega)), set_other (by first | omega | (simp; done) | (simp; omega))]; (with_reducible assumption)) | (with_reducible refine bkeep2 hb ?_; first | (with_reducible assumption) | (simp [*]; done)) | go_keep)) (first | (go_at_call 65; with_reducible refine (r1 _).mono ?_; rintro e w' ⟨rfl, hb⟩; have z0 := bkeep2 hb (p := ⟨w.heap.size + 1, 0, none⟩) (v := .complex .f64 0 0) (by first | (with_reducible assumption) | simp [*]); have y0 := bfroz2 hb (p := ⟨w.heap.size + 1, 0, none⟩) (v := .complex .f64 0 0) (by first | (with_reducible assumption) | simp [*]) (by first | (with_reducible assumption) | simp [*]); have z1 := bkeep2 hb (p := ⟨w.heap.size + 1, 1, none⟩) (v := .float .f64 0) (by first | (with_reducible assumption) | simp [*]); have y1 := bfroz2 hb (p := ⟨w.heap.size + 1, 1, none⟩) (v := .float .f64 0) (by first | (with_reducible assumption) | simp [*]) (by first | (with_reducible assumption) | simp [*])) | (go_at_call 65; with_reducible refine (r2 _).mono ?_; rintro e w' ⟨rfl, hb⟩; have z0 := bkeep2 hb (p := ⟨w.heap.size + 1, 0, none⟩) (v := .complex .f64 0 0) (by first | (with_reducible assumption) | simp [*]); have y0 := bfroz2 hb (p := ⟨w.heap.size + 1, 0, none⟩) (v := .complex .f64 0 0) (by first | (with_reducible assumption) | simp [*]) (by first | (with_reducible assumption) | simp [*]); have z1 := bkeep2 hb (p := ⟨w.heap.size + 1, 1, none⟩) (v := .float .f64 0) (by first | (with_reducible assumption) | simp [*]); have y1 := bfroz2 hb (p := ⟨w.heap.size + 1, 1, none⟩) (v := .float .f64 0) (by first | (with_reducible assumption) | simp [*]) (by first | (with_reducible assumption) | simp [*])) | (go_at_call 64; with_reducible refine (le _).mono ?_; rintro e w' ⟨rfl, hb⟩; have z0 := bkeep2 hb (p := ⟨w.heap.size + 1, 0, none⟩) (v := .complex .f64 0 0) (by first | (with_reducible assumption) | simp [*]); have y0 := bfroz2 hb (p := ⟨w.heap.size + 1, 0, none⟩) (v := .complex .f64 0 0) (by first | (with_reducible assumption) | simp [*]) (by first | (with_reducible assumption) | simp [*]); have z1 := bkeep2 hb (p := ⟨w.heap.size + 1, 1, none⟩) (v := .float .f64 0) (by first | (with_reducible assumption) | simp [*]); have y1 := bfroz2 hb (p := ⟨w.heap.size + 1, 1, none⟩) (v := .float .f64 0) (by first | (with_reducible assumption) | simp [*]) (by first | (with_reducible assumption) | simp [*])) | (go_at_call 63; with_reducible refine (ua _).mono ?_; rintro e w' ⟨rfl, hb⟩; have z0 := bkeep2 hb (p := ⟨w.heap.size + 1, 0, none⟩) (v := .complex .f64 0 0) (by first | (with_reducible assumption) | simp [*]); have y0 := bfroz2 hb (p := ⟨w.heap.size + 1, 0, none⟩) (v := .complex .f64 0 0) (by first | (with_reducible assumption) | simp [*]) (by first | (with_reducible assumption) | simp [*]); have z1 := bkeep2 hb (p := ⟨w.heap.size + 1, 1, none⟩) (v := .float .f64 0) (by first | (with_reducible assumption) | simp [*]); have y1 := bfroz2 hb (p := ⟨w.heap.size + 1, 1, none⟩) (v := .float .f64 0) (by first | (with_reducible assumption) | simp [*]) (by first | (with_reducible assumption) | simp [*])))
  go_wp2_with fail
  go_at_call 21
  refine (fi _).mono ?_
  rintro e w' ⟨rfl, rfl⟩
  go_wp2_with fail
  go_at_call 61
  refine (ad _).mono ?_
  rintro e w3 ⟨rfl, hb3⟩
  have x300 := bkeep2 hb3 (p := ⟨w.heap.size + 1, 0, none⟩) (v := .complex .f64 0 0) (by first | (with_reducible assumption) | simp [*])
  have y300 := bfroz2 hb3 (p := ⟨w.heap.size + 1, 0, none⟩) (v := .complex .f64 0 0) (by first | (with_reducible assumption) | simp [*]) (by first | (with_reducible assumption) | simp [*])
  have x301 := bkeep2 hb3 (p := ⟨w.heap.size + 1, 1, none⟩) (v := .float .f64 0) (by first | (with_reducible assumption) | simp [*])
  have y301 := bfroz2 hb3 (p := ⟨w.heap.size + 1, 1, none⟩) (v := .float .f64 0) (by first | (with_reducible assumption) | simp [*]) (by first | (with_reducible assumption) | simp [*])
  go_wp2_with fail
  refine bodyPost_ret (v := .agg #[.complex .f64 0 0, .float .f64 i]) (by simp [results, Try.results47, go_sem, *]) rfl ⟨rfl, ?_⟩
  repeat (with_reducible first | exact Below.refl _ _ | assumption | refine Below.drew ?_ | refine bl_drewN ?_ _ | refine Below.setCell ?_ (by first | omega | (simp; done) | (simp; omega)) _ | refine Below.alloc ?_ (by first | omega | (simp; done) | (simp; omega)) _ | refine bl_next ?_ (by assumption) | refine bl_trans ?_ (by assumption) (by first | omega | (simp; done) | (simp; omega)))

set_option maxHeartbeats 2000000 in
theorem around_f_w (X1 X2 X3 X4 rad u v p q l t : Nat)
    (e1 : ∀ w, Calls Try.prog 60 #[.agg #[.float .f64 X1, .float .f64 X2]] w fun e w' => e = .returned (.bool false) ∧ Below w.heap.size w w')
    (e2 : ∀ w, Calls Try.prog 60 #[.agg #[.float .f64 X3, .float .f64 X4]] w fun e w' => e = .returned (.bool false) ∧ Below w.heap.size w w')
    (m1 : ∀ w, Calls Try.prog 62 #[.agg #[.float .f64 X1, .float .f64 X2]] w fun e w' => e = .returned (.float .f64 u) ∧ Below w.heap.size w w')
    (m2 : ∀ w, Calls Try.prog 62 #[.agg #[.float .f64 X3, .float .f64 X4]] w fun e w' => e = .returned (.float .f64 v) ∧ Below w.heap.size w w')
    (r1 : ∀ w, Calls Try.prog 65 #[.agg #[.float .f64 X1, .float .f64 X2], .float .f64 u] w fun e w' => e = .returned (.float .f64 p) ∧ Below w.heap.size w w')
    (r2 : ∀ w, Calls Try.prog 65 #[.agg #[.float .f64 X3, .float .f64 X4], .float .f64 v] w fun e w' => e = .returned (.float .f64 q) ∧ Below w.heap.size w w')
    (le : ∀ w, Calls Try.prog 64 #[.float .f64 p, .float .f64 q] w fun e w' => e = .returned (.float .f64 l) ∧ Below w.heap.size w w')
    (ua : ∀ w, Calls Try.prog 63 #[.float .f64 l, .float .f64 rad] w fun e w' => e = .returned (.float .f64 t) ∧ Below w.heap.size w w')
    (fi : ∀ w, Calls Try.prog 21 #[.float .f64 t, .int .i64 1] w fun e w' => e = .returned (.bool false) ∧ w' = w) (w : World) :
    Calls Try.prog 47 #[.agg #[.float .f64 X1, .float .f64 X2, .float .f64 X3, .float .f64 X4], .float .f64 rad] w fun e w' => e = .returned (.agg #[.complex .f64 u v, .float .f64 t]) ∧ Below w.heap.size w w' := by
  go_enter Try.func47, Try.ntmps47
  go_wp2_with fail
  obtain ⟨w0, hw0⟩ : ∃ v, v = ((w.alloc (.cells #[.float .f64 X1, .float .f64 X2, .float .f64 X3, .float .f64 X4] 32)).alloc (.cells #[.complex .f64 0 0, .float .f64 0] 26)) := ⟨_, rfl⟩
  rw [← hw0]
  have c00 : w0.cell? ⟨w.heap.size, 0, none⟩ = some (.float .f64 X1) := by simp [hw0, go_sem]
  have c01 : w0.cell? ⟨w.heap.size, 1, none⟩ = some (.float .f64 X2) := by simp [hw0, go_sem]
  have c02 : w0.cell? ⟨w.heap.size, 2, none⟩ = some (.float .f64 X3) := by simp [hw0, go_sem]
  have c03 : w0.cell? ⟨w.heap.size, 3, none⟩ = some (.float .f64 X4) := by simp [hw0, go_sem]
  have c10 : w0.cell? ⟨w.heap.size + 1, 0, none⟩ = some (.complex .f64 0 0) := by simp [hw0, go_sem]
  have fc10 : w0.frozen? ⟨w.heap.size + 1, 0, none⟩ = false := by simp [hw0, go_sem]
  have c11 : w0.cell? ⟨w.heap.size + 1, 1, none⟩ = some (.float .f64 0) := by simp [hw0, go_sem]
  have fc11 : w0.frozen? ⟨w.heap.size + 1, 1, none⟩ = false := by simp [hw0, go_sem]
  have s0 : w.heap.size + 1 + 1 ≤ w0.heap.size := by simp [hw0]
  have hB0 : Below w.heap.size w w0 := by
    rw [hw0]
    repeat (with_reducible first | exact Below.refl _ _ | assumption | refine Below.drew ?_ | refine bl_drewN ?_ _ | refine Below.setCell ?_ (by first | omega | (simp; done) | (simp; omega)) _ | refine Below.alloc ?_ (by first | omega | (simp; done) | (simp; omega)) _ | refine bl_next ?_ (by assumption) | refine bl_trans ?_ (by assumption) (by first | omega | (simp; done) | (simp; omega)))
  clear hw0
  go_at_call 60
  refine (e1 _).mono ?_
  rintro e w1 ⟨rfl, hb1⟩
  have s1 := hb1.size
  try simp at s1
  replace fc10 := bfroz2 hb1 c10 fc10
  replace fc11 := bfroz2 hb1 c11 fc11
  replace c00 := bkeep2 hb1 c00
  replace c01 := bkeep2 hb1 c01
  replace c02 := bkeep2 hb1 c02
  replace c03 := bkeep2 hb1 c03
  replace c10 := bkeep2 hb1 c10
  replace c11 := bkeep2 hb1 c11
  have l0 : w.heap.size < w1.heap.size := cell_lt c00
  have l1 : w.heap.size + 1 < w1.heap.size := cell_lt c10
  go_wp2_with fail
  go_at_call 60
  refine (e2 _).mono ?_
  rintro e w2 ⟨rfl, hb2⟩
  have s2 := hb2.size
  try simp at s2
  replace fc10 := bfroz2 hb2 c10 fc10
  replace fc11 := bfroz2 hb2 c11 fc11
  replace c00 := bkeep2 hb2 c00
  replace c01 := bkeep2 hb2 c01
  replace c02 := bkeep2 hb2 c02
  replace c03 := bkeep2 hb2 c03
  replace c10 := bkeep2 hb2 c10
  replace c11 := bkeep2 hb2 c11
  have l0 : w.heap.size < w2.heap.size := cell_lt c00
  have l1 : w.heap.size + 1 < w2.heap.size := cell_lt c10
  go_wp2_with fail
  go_region_held3 (fun w' => w'.cell? ⟨w.heap.size, 0, none⟩ = some (.float .f64 X1) ∧ w'.cell? ⟨w.heap.size, 1, none⟩ = some (.float .f64 X2) ∧ w'.cell? ⟨w.heap.size, 2, none⟩ = some (.float .f64 X3) ∧ w'.cell? ⟨w.heap.size, 3, none⟩ = some (.float .f64 X4)) (((try dsimp only); (try go_split_ands); (repeat' apply And.intro) <;> first | (with_reducible assumption) | (rw [set_other (by first | omega | (simp; done) | (simp; omega)), set_other (by first | omega | (simp; done) | (simp; omega))]; (with_reducible assumption)) | (with_reducible refine bkeep2 hb ?_; first | (with_reducible assumption) | (simp [*]; done)) | go_keep)) (first | (go_at_call 62; with_reducible refine (m1 _).mono ?_; rintro e w' ⟨rfl, hb⟩; have z0 := bkeep2 hb (p := ⟨w.heap.size + 1, 0, none⟩) (v := .complex .f64 0 0) (by first | (with_reducible assumption) | simp [*]); have y0 := bfroz2 hb (p := ⟨w.heap.size + 1, 0, none⟩) (v := .complex .f64 0 0) (by first | (with_reducible assumption) | simp [*]) (by first | (with_reducible assumption) | simp [*]); have z1 := bkeep2 hb (p := ⟨w.heap.size + 1, 1, none⟩) (v := .float .f64 0) (by first | (with_reducible assumption) | simp [*]); have y1 := bfroz2 hb (p := ⟨w.heap.size + 1, 1, none⟩) (v := .float .f64 0) (by first | (with_reducible assumption) | simp [*]) (by first | (with_reducible assumption) | simp [*])) | (go_at_call 62; with_reducible refine (m2 _).mono ?_; rintro e w' ⟨rfl, hb⟩; have z0 := bkeep2 hb (p := ⟨w.heap.size + 1, 0, none⟩) (v := .complex .f64 0 0) (by first | (with_reducible assumption) | simp [*]); have y0 := bfroz2 hb (p := ⟨w.heap.size + 1, 0, none⟩) (v := .complex .f64 0 0) (by first | (with_reducible assumption) | simp [*]) (by first | (with_reducible assumption) | simp [*]); have z1 := bkeep2 hb (p := ⟨w.heap.size + 1, 1, none⟩) (v := .float .f64 0) (by first | (with_reducible assumption) | simp [*]); have y1 := bfroz2 hb (p := ⟨w.heap.size + 1, 1, none⟩) (v := .float .f64 0) (by first | (with_reducible assumption) | simp [*]) (by first | (with_reducible assumption) | simp [*])))
  go_wp2_with fail
  go_region_held3 (fun w' => w'.cell? ⟨w.heap.size, 0, none⟩ = some (.float .f64 X1) ∧ w'.cell? ⟨w.heap.size, 1, none⟩ = some (.float .f64 X2) ∧ w'.cell? ⟨w.heap.size, 2, none⟩ = some (.float .f64 X3) ∧ w'.cell? ⟨w.heap.size, 3, none⟩ = some (.float .f64 X4)) (((try dsimp only); (try go_split_ands); (repeat' apply And.intro) <;> first | (with_reducible assumption) | (rw [set_other (by first | omega | (simp; done) | (simp; omega)), set_other (by first | omega | (simp; done) | (simp; omega))]; (with_reducible assumption)) | (with_reducible refine bkeep2 hb ?_; first | (with_reducible assumption) | (simp [*]; done)) | go_keep)) (first | (go_at_call 65; with_reducible refine (r1 _).mono ?_; rintro e w' ⟨rfl, hb⟩; have z0 := bkeep2 hb (p := ⟨w.heap.size + 1, 0, none⟩) (v := .complex .f64 0 0) (by first | (with_reducible assumption) | simp [*]); have y0 := bfroz2 hb (p := ⟨w.heap.size + 1, 0, none⟩) (v := .complex .f64 0 0) (by first | (with_reducible assumption) | simp [*]) (by first | (with_reducible assumption) | simp [*]); have z1 := bkeep2 hb (p := ⟨w.heap.size + 1, 1, none⟩) (v := .float .f64 0) (by first | (with_reducible assumption) | simp [*]); have y1 := bfroz2 hb (p := ⟨w.heap.size + 1, 1, none⟩) (v := .float .f64 0) (by first | (with_reducible assumption) | simp [*]) (by first | (with_reducible assumption) | simp [*])) | (go_at_call 65; with_reducible refine (r2 _).mono ?_; rintro e w' ⟨rfl, hb⟩; have z0 := bkeep2 hb (p := ⟨w.heap.size + 1, 0, none⟩) (v := .complex .f64 0 0) (by first | (with_reducible assumption) | simp [*]); have y0 := bfroz2 hb (p := ⟨w.heap.size + 1, 0, none⟩) (v := .complex .f64 0 0) (by first | (with_reducible assumption) | simp [*]) (by first | (with_reducible assumption) | simp [*]); have z1 := bkeep2 hb (p := ⟨w.heap.size + 1, 1, none⟩) (v := .float .f64 0) (by first | (with_reducible assumption) | simp [*]); have y1 := bfroz2 hb (p := ⟨w.heap.size + 1, 1, none⟩) (v := .float .f64 0) (by first | (with_reducible assumption) | simp [*]) (by first | (with_reducible assumption) | simp [*])) | (go_at_call 64; with_reducible refine (le _).mono ?_; rintro e w' ⟨rfl, hb⟩; have z0 := bkeep2 hb (p := ⟨w.heap.size + 1, 0, none⟩) (v := .complex .f64 0 0) (by first | (with_reducible assumption) | simp [*]); have y0 := bfroz2 hb (p := ⟨w.heap.size + 1, 0, none⟩) (v := .complex .f64 0 0) (by first | (with_reducible assumption) | simp [*]) (by first | (with_reducible assumption) | simp [*]); have z1 := bkeep2 hb (p := ⟨w.heap.size + 1, 1, none⟩) (v := .float .f64 0) (by first | (with_reducible assumption) | simp [*]); have y1 := bfroz2 hb (p := ⟨w.heap.size + 1, 1, none⟩) (v := .float .f64 0) (by first | (with_reducible assumption) | simp [*]) (by first | (with_reducible assumption) | simp [*])) | (go_at_call 63; with_reducible refine (ua _).mono ?_; rintro e w' ⟨rfl, hb⟩; have z0 := bkeep2 hb (p := ⟨w.heap.size + 1, 0, none⟩) (v := .complex .f64 0 0) (by first | (with_reducible assumption) | simp [*]); have y0 := bfroz2 hb (p := ⟨w.heap.size + 1, 0, none⟩) (v := .complex .f64 0 0) (by first | (with_reducible assumption) | simp [*]) (by first | (with_reducible assumption) | simp [*]); have z1 := bkeep2 hb (p := ⟨w.heap.size + 1, 1, none⟩) (v := .float .f64 0) (by first | (with_reducible assumption) | simp [*]); have y1 := bfroz2 hb (p := ⟨w.heap.size + 1, 1, none⟩) (v := .float .f64 0) (by first | (with_reducible assumption) | simp [*]) (by first | (with_reducible assumption) | simp [*])))
  go_wp2_with fail
  go_at_call 21
  refine (fi _).mono ?_
  rintro e w' ⟨rfl, rfl⟩
  go_wp2_with fail
  refine bodyPost_ret (v := .agg #[.complex .f64 u v, .float .f64 t]) (by simp [results, Try.results47, go_sem, *]) rfl ⟨rfl, ?_⟩
  repeat (with_reducible first | exact Below.refl _ _ | assumption | refine Below.drew ?_ | refine bl_drewN ?_ _ | refine Below.setCell ?_ (by first | omega | (simp; done) | (simp; omega)) _ | refine Below.alloc ?_ (by first | omega | (simp; done) | (simp; omega)) _ | refine bl_next ?_ (by assumption) | refine bl_trans ?_ (by assumption) (by first | omega | (simp; done) | (simp; omega)))

set_option maxHeartbeats 1000000 in
theorem radOfSums_w (a b r c d s t : Nat)
    (u1 : ∀ w, Calls Try.prog 63 #[.float .f64 r, .float .f64 s] w fun e w' => e = .returned (.float .f64 t) ∧ Below w.heap.size w w') (w : World) :
    Calls Try.prog 51 #[.agg #[.complex .f64 a b, .float .f64 r], .agg #[.complex .f64 c d, .float .f64 s]] w fun e w' => e = .returned (.float .f64 t) ∧ Below w.heap.size w w' := by
  go_enter Try.func51, Try.ntmps51
  go_wp2_with fail
  obtain ⟨w0, hw0⟩ : ∃ v, v = ((w.alloc (.cells #[.complex .f64 a b, .float .f64 r] 26)).alloc (.cells #[.complex .f64 c d, .float .f64 s] 26)) := ⟨_, rfl⟩
  rw [← hw0]
  have c00 : w0.cell? ⟨w.heap.size, 0, none⟩ = some (.complex .f64 a b) := by simp [hw0, go_sem]
  have c01 : w0.cell? ⟨w.heap.size, 1, none⟩ = some (.float .f64 r) := by simp [hw0, go_sem]
  have c10 : w0.cell? ⟨w.heap.size + 1, 0, none⟩ = some (.complex .f64 c d) := by simp [hw0, go_sem]
  have c11 : w0.cell? ⟨w.heap.size + 1, 1, none⟩ = some (.float .f64 s) := by simp [hw0, go_sem]
  have s0 : w.heap.size + 1 + 1 ≤ w0.heap.size := by simp [hw0]
  have hB0 : Below w.heap.size w w0 := by
    rw [hw0]
    repeat (with_reducible first | exact Below.refl _ _ | assumption | refine Below.drew ?_ | refine bl_drewN ?_ _ | refine Below.setCell ?_ (by first | omega | (simp; done) | (simp; omega)) _ | refine Below.alloc ?_ (by first | omega | (simp; done) | (simp; omega)) _ | refine bl_next ?_ (by assumption) | refine bl_trans ?_ (by assumption) (by first | omega | (simp; done) | (simp; omega)))
  clear hw0
  go_at_call 63
  refine (u1 _).mono ?_
  rintro e w1 ⟨rfl, hb1⟩
  have s1 := hb1.size
  try simp at s1
  replace c00 := bkeep2 hb1 c00
  replace c01 := bkeep2 hb1 c01
  replace c10 := bkeep2 hb1 c10
  replace c11 := bkeep2 hb1 c11
  have l0 : w.heap.size < w1.heap.size := cell_lt c00
  have l1 : w.heap.size + 1 < w1.heap.size := cell_lt c10
  go_wp2_with fail
  go_ret
  refine ⟨rfl, ?_⟩
  repeat (with_reducible first | exact Below.refl _ _ | assumption | refine Below.drew ?_ | refine bl_drewN ?_ _ | refine Below.setCell ?_ (by first | omega | (simp; done) | (simp; omega)) _ | refine Below.alloc ?_ (by first | omega | (simp; done) | (simp; omega)) _ | refine bl_next ?_ (by assumption) | refine bl_trans ?_ (by assumption) (by first | omega | (simp; done) | (simp; omega)))

end Go.Proofs.Ytacnclofbnafiab
