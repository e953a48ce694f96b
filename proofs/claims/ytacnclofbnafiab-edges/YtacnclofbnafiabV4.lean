import Derived.Test.YtacnclofbnafiabVA
import Derived.Test.YtacnclofbnafiabTB
namespace Go.Proofs.Ytacnclofbnafiab
open Go.RowKit Fl

def four (a b c d : Nat) : Nat → Nat := fun j => if j = 0 then a else if j = 1 then b else if j = 2 then c else d
def two (a b : Nat) : Nat → Nat := fun j => if j = 0 then a else b
theorem arr4 (w : World) (a b c d : Nat) (o : Obj) : Arr ((w.alloc (.cells #[.float .f64 a, .float .f64 b, .float .f64 c, .float .f64 d] 24)).alloc o) (.slice (some ⟨w.heap.size, 0, none⟩) 4 4) 4 (four a b c d) := by
  refine ⟨_, _, rfl, by simp; omega, fun j hj => ?_⟩
  rw [bkeep (bl_alloc (Below.refl _ _)) (p := ⟨w.heap.size, j, none⟩) (v := .float .f64 (four a b c d j)) ?_ (by simp)]
  match j, hj with
  | 0, _ => simp [go_sem, four]
  | 1, _ => simp [go_sem, four]
  | 2, _ => simp [go_sem, four]
  | 3, _ => simp [go_sem, four]
theorem arr4n (w : World) (a b c d : Nat) (o : Obj) : Arr ((w.alloc o).alloc (.cells #[.float .f64 a, .float .f64 b, .float .f64 c, .float .f64 d] 24)) (.slice (some ⟨w.heap.size + 1, 0, none⟩) 4 4) 4 (four a b c d) := by
  refine ⟨_, _, rfl, by simp, fun j hj => ?_⟩
  match j, hj with
  | 0, _ => simp [go_sem, four]
  | 1, _ => simp [go_sem, four]
  | 2, _ => simp [go_sem, four]
  | 3, _ => simp [go_sem, four]
theorem arr2 (w : World) (a b : Nat) (o : Obj) : Arr ((w.alloc (.cells #[.float .f64 a, .float .f64 b] 24)).alloc o) (.slice (some ⟨w.heap.size, 0, none⟩) 2 2) 2 (two a b) := by
  refine ⟨_, _, rfl, by simp; omega, fun j hj => ?_⟩
  rw [bkeep (bl_alloc (Below.refl _ _)) (p := ⟨w.heap.size, j, none⟩) (v := .float .f64 (two a b j)) ?_ (by simp)]
  match j, hj with
  | 0, _ => simp [go_sem, two]
  | 1, _ => simp [go_sem, two]
theorem arr2n (w : World) (a b : Nat) (o : Obj) : Arr ((w.alloc o).alloc (.cells #[.float .f64 a, .float .f64 b] 24)) (.slice (some ⟨w.heap.size + 1, 0, none⟩) 2 2) 2 (two a b) := by
  refine ⟨_, _, rfl, by simp, fun j hj => ?_⟩
  match j, hj with
  | 0, _ => simp [go_sem, two]
  | 1, _ => simp [go_sem, two]

theorem bl2 {w w' : World} {o o' : Obj} (h : Below ((w.alloc o).alloc o').heap.size ((w.alloc o).alloc o') w') : Below w.heap.size w w' := (bl_alloc (bl_alloc (Below.refl _ _))).trans (h.mono (by simp; omega))

set_option maxHeartbeats 1000000 in
theorem far_inf_w (z1 z2 z3 a1 a2 a3 c1 c2 c3 : Nat)
    (h : ∀ w, Calls Try.prog 21 #[.float .f64 z3, .int .i64 1] w fun e w' => e = .returned (.bool true) ∧ w' = w) (w : World) :
    Calls Try.prog 18 #[.agg #[.complex .f64 z1 z2, .float .f64 z3], .agg #[.complex .f64 a1 a2, .float .f64 a3], .agg #[.complex .f64 c1 c2, .float .f64 c3]] w fun e w' => e = .returned (.bool true) ∧ Below w.heap.size w w' := by
  go_enter Try.func18, Try.ntmps18
  go_wp2_with fail
  obtain ⟨w0, hw0⟩ : ∃ v, v = (((w.alloc (.cells #[.complex .f64 z1 z2, .float .f64 z3] 26)).alloc (.cells #[.complex .f64 a1 a2, .float .f64 a3] 26)).alloc (.cells #[.complex .f64 c1 c2, .float .f64 c3] 26)) := ⟨_, rfl⟩
  rw [← hw0]
  have c00 : w0.cell? ⟨w.heap.size, 0, none⟩ = some (.complex .f64 z1 z2) := by simp [hw0, go_sem]
  have c01 : w0.cell? ⟨w.heap.size, 1, none⟩ = some (.float .f64 z3) := by simp [hw0, go_sem]
  have c10 : w0.cell? ⟨w.heap.size + 1, 0, none⟩ = some (.complex .f64 a1 a2) := by simp [hw0, go_sem]
  have c11 : w0.cell? ⟨w.heap.size + 1, 1, none⟩ = some (.float .f64 a3) := by simp [hw0, go_sem]
  have c20 : w0.cell? ⟨w.heap.size + 1 + 1, 0, none⟩ = some (.complex .f64 c1 c2) := by simp [hw0, go_sem]
  have c21 : w0.cell? ⟨w.heap.size + 1 + 1, 1, none⟩ = some (.float .f64 c3) := by simp [hw0, go_sem]
  have s0 : w.heap.size + 1 + 1 + 1 ≤ w0.heap.size := by simp [hw0]
  have hB0 : Below w.heap.size w w0 := by
    rw [hw0]
    repeat (with_reducible first | exact Below.refl _ _ | assumption | refine Below.drew ?_ | refine bl_drewN ?_ _ | refine Below.setCell ?_ (by first | omega | (simp; done) | (simp; omega)) _ | refine Below.alloc ?_ (by first | omega | (simp; done) | (simp; omega)) _ | refine bl_next ?_ (by assumption) | refine bl_trans ?_ (by assumption) (by first | omega | (simp; done) | (simp; omega)))
  clear hw0
  go_at_call 21
  refine (h _).mono ?_
  rintro e w' ⟨rfl, rfl⟩
  go_wp2_with fail
  go_ret
  refine ⟨rfl, ?_⟩
  repeat (with_reducible first | exact Below.refl _ _ | assumption | refine Below.drew ?_ | refine bl_drewN ?_ _ | refine Below.setCell ?_ (by first | omega | (simp; done) | (simp; omega)) _ | refine Below.alloc ?_ (by first | omega | (simp; done) | (simp; omega)) _ | refine bl_next ?_ (by assumption) | refine bl_trans ?_ (by assumption) (by first | omega | (simp; done) | (simp; omega)))

set_option maxHeartbeats 4000000 in
theorem far_w (z1 z2 z3 a1 a2 a3 c1 c2 c3 rn sn : Nat)
    (h : ∀ w, Calls Try.prog 21 #[.float .f64 z3, .int .i64 1] w fun e w' => e = .returned (.bool false) ∧ w' = w)
    (g1 : Op.unary .neg (.float .f64 a3) = pure (.float .f64 rn))
    (g2 : Op.unary .neg (.float .f64 c3) = pure (.float .f64 sn))
    (o : (Ieee.double.order z3 0 == some .gt || Ieee.double.order z3 0 == some .eq) = true)
    (q0 : ∀ re im w, Arr w re 4 (four a1 c1 a3 c3) → Arr w im 2 (two a2 c2) → Calls Try.prog 33 #[re, im, .agg #[.complex .f64 z1 z2, .float .f64 z3]] w fun e w' => e = .returned (.bool true) ∧ Below w.heap.size w w')
    (q1 : ∀ re im w, Arr w re 4 (four a1 c1 rn sn) → Arr w im 2 (two a2 c2) → Calls Try.prog 33 #[re, im, .agg #[.complex .f64 z1 z2, .float .f64 z3]] w fun e w' => e = .returned (.bool true) ∧ Below w.heap.size w w')
    (q2 : ∀ re im w, Arr w re 2 (two a1 c1) → Arr w im 4 (four a2 c2 a3 c3) → Calls Try.prog 33 #[re, im, .agg #[.complex .f64 z1 z2, .float .f64 z3]] w fun e w' => e = .returned (.bool true) ∧ Below w.heap.size w w')
    (q3 : ∀ re im w, Arr w re 2 (two a1 c1) → Arr w im 4 (four a2 c2 rn sn) → Calls Try.prog 33 #[re, im, .agg #[.complex .f64 z1 z2, .float .f64 z3]] w fun e w' => e = .returned (.bool true) ∧ Below w.heap.size w w') (w : World) :
    Calls Try.prog 18 #[.agg #[.complex .f64 z1 z2, .float .f64 z3], .agg #[.complex .f64 a1 a2, .float .f64 a3], .agg #[.complex .f64 c1 c2, .float .f64 c3]] w fun e w' => e = .returned (.bool true) ∧ Below w.heap.size w w' := by
  go_enter Try.func18, Try.ntmps18
  go_wp2_with fail
  obtain ⟨w0, hw0⟩ : ∃ v, v = (((w.alloc (.cells #[.complex .f64 z1 z2, .float .f64 z3] 26)).alloc (.cells #[.complex .f64 a1 a2, .float .f64 a3] 26)).alloc (.cells #[.complex .f64 c1 c2, .float .f64 c3] 26)) := ⟨_, rfl⟩
  rw [← hw0]
  have c00 : w0.cell? ⟨w.heap.size, 0, none⟩ = some (.complex .f64 z1 z2) := by simp [hw0, go_sem]
  have c01 : w0.cell? ⟨w.heap.size, 1, none⟩ = some (.float .f64 z3) := by simp [hw0, go_sem]
  have c10 : w0.cell? ⟨w.heap.size + 1, 0, none⟩ = some (.complex .f64 a1 a2) := by simp [hw0, go_sem]
  have c11 : w0.cell? ⟨w.heap.size + 1, 1, none⟩ = some (.float .f64 a3) := by simp [hw0, go_sem]
  have c20 : w0.cell? ⟨w.heap.size + 1 + 1, 0, none⟩ = some (.complex .f64 c1 c2) := by simp [hw0, go_sem]
  have c21 : w0.cell? ⟨w.heap.size + 1 + 1, 1, none⟩ = some (.float .f64 c3) := by simp [hw0, go_sem]
  have s0 : w.heap.size + 1 + 1 + 1 ≤ w0.heap.size := by simp [hw0]
  have hB0 : Below w.heap.size w w0 := by
    rw [hw0]
    repeat (with_reducible first | exact Below.refl _ _ | assumption | refine Below.drew ?_ | refine bl_drewN ?_ _ | refine Below.setCell ?_ (by first | omega | (simp; done) | (simp; omega)) _ | refine Below.alloc ?_ (by first | omega | (simp; done) | (simp; omega)) _ | refine bl_next ?_ (by assumption) | refine bl_trans ?_ (by assumption) (by first | omega | (simp; done) | (simp; omega)))
  clear hw0
  have l0 : w.heap.size < w0.heap.size := by omega
  have l1 : w.heap.size + 1 < w0.heap.size := by omega
  have l2 : w.heap.size + 1 + 1 < w0.heap.size := by omega
  go_at_call 21
  refine (h _).mono ?_
  rintro e w' ⟨rfl, rfl⟩
  go_wp2_with fail
  go_at_call 33
  refine (q0 _ _ _ (arr4 _ a1 c1 a3 c3 _) (arr2n _ a2 c2 _)).mono ?_
  rintro e w1 ⟨rfl, hb1⟩
  replace hb1 := bl2 hb1
  have s1 := hb1.size
  try simp at s1
  replace c00 := bkeep2 hb1 c00
  replace c01 := bkeep2 hb1 c01
  replace c10 := bkeep2 hb1 c10
  replace c11 := bkeep2 hb1 c11
  replace c20 := bkeep2 hb1 c20
  replace c21 := bkeep2 hb1 c21
  have l0 : w.heap.size < w1.heap.size := cell_lt c00
  have l1 : w.heap.size + 1 < w1.heap.size := cell_lt c10
  have l2 : w.heap.size + 1 + 1 < w1.heap.size := cell_lt c20
  go_wp2_with fail
  go_at_call 33
  refine (q1 _ _ _ (arr4 _ a1 c1 rn sn _) (arr2n _ a2 c2 _)).mono ?_
  rintro e w2 ⟨rfl, hb2⟩
  replace hb2 := bl2 hb2
  have s2 := hb2.size
  try simp at s2
  replace c00 := bkeep2 hb2 c00
  replace c01 := bkeep2 hb2 c01
  replace c10 := bkeep2 hb2 c10
  replace c11 := bkeep2 hb2 c11
  replace c20 := bkeep2 hb2 c20
  replace c21 := bkeep2 hb2 c21
  have l0 : w.heap.size < w2.heap.size := cell_lt c00
  have l1 : w.heap.size + 1 < w2.heap.size := cell_lt c10
  have l2 : w.heap.size + 1 + 1 < w2.heap.size := cell_lt c20
  go_wp2_with fail
  go_at_call 33
  refine (q2 _ _ _ (arr2 _ a1 c1 _) (arr4n _ a2 c2 a3 c3 _)).mono ?_
  rintro e w3 ⟨rfl, hb3⟩
  replace hb3 := bl2 hb3
  have s3 := hb3.size
  try simp at s3
  replace c00 := bkeep2 hb3 c00
  replace c01 := bkeep2 hb3 c01
  replace c10 := bkeep2 hb3 c10
  replace c11 := bkeep2 hb3 c11
  replace c20 := bkeep2 hb3 c20
  replace c21 := bkeep2 hb3 c21
  have l0 : w.heap.size < w3.heap.size := cell_lt c00
  have l1 : w.heap.size + 1 < w3.heap.size := cell_lt c10
  have l2 : w.heap.size + 1 + 1 < w3.heap.size := cell_lt c20
  go_wp2_with fail
  go_at_call 33
  refine (q3 _ _ _ (arr2 _ a1 c1 _) (arr4n _ a2 c2 rn sn _)).mono ?_
  rintro e w4 ⟨rfl, hb4⟩
  replace hb4 := bl2 hb4
  have s4 := hb4.size
  try simp at s4
  replace c00 := bkeep2 hb4 c00
  replace c01 := bkeep2 hb4 c01
  replace c10 := bkeep2 hb4 c10
  replace c11 := bkeep2 hb4 c11
  replace c20 := bkeep2 hb4 c20
  replace c21 := bkeep2 hb4 c21
  have l0 : w.heap.size < w4.heap.size := cell_lt c00
  have l1 : w.heap.size + 1 < w4.heap.size := cell_lt c10
  have l2 : w.heap.size + 1 + 1 < w4.heap.size := cell_lt c20
  go_wp2_with fail
  go_ret
  refine ⟨rfl, ?_⟩
  repeat (with_reducible first | exact Below.refl _ _ | assumption | refine Below.drew ?_ | refine bl_drewN ?_ _ | refine Below.setCell ?_ (by first | omega | (simp; done) | (simp; omega)) _ | refine Below.alloc ?_ (by first | omega | (simp; done) | (simp; omega)) _ | refine bl_next ?_ (by assumption) | refine bl_trans ?_ (by assumption) (by first | omega | (simp; done) | (simp; omega)))

set_option maxHeartbeats 1000000 in
theorem low_inf_w (v a b : Nat)
    (h : ∀ w, Calls Try.prog 21 #[.float .f64 v, .int .i64 0] w fun e w' => e = .returned (.bool true) ∧ w' = w)
    (o : (Ieee.double.order v 0 == some .lt) = true) (w : World) :
    Calls Try.prog 19 #[.float .f64 v, .float .f64 a, .float .f64 b] w fun e w' => e = .returned (.bool true) ∧ Below w.heap.size w w' := by
  go_enter Try.func19, Try.ntmps19
  go_wp2_with fail
  go_at_call 21
  refine (h _).mono ?_
  rintro e w' ⟨rfl, rfl⟩
  go_wp2_with fail
  go_ret
  refine ⟨rfl, ?_⟩
  repeat (with_reducible first | exact Below.refl _ _ | assumption | refine Below.drew ?_ | refine bl_drewN ?_ _ | refine Below.setCell ?_ (by first | omega | (simp; done) | (simp; omega)) _ | refine Below.alloc ?_ (by first | omega | (simp; done) | (simp; omega)) _ | refine bl_next ?_ (by assumption) | refine bl_trans ?_ (by assumption) (by first | omega | (simp; done) | (simp; omega)))

set_option maxHeartbeats 1000000 in
theorem low_w (v a b : Nat) (g : Int)
    (h : ∀ w, Calls Try.prog 21 #[.float .f64 v, .int .i64 0] w fun e w' => e = .returned (.bool false) ∧ w' = w)
    (si : ∀ w, Calls Try.prog 34 #[.int .i64 0, .float .f64 a, .float .f64 b, .float .f64 v] w fun e w' => e = .returned (.int .i64 g) ∧ Below w.heap.size w w')
    (hg : 0 ≤ g) (w : World) :
    Calls Try.prog 19 #[.float .f64 v, .float .f64 a, .float .f64 b] w fun e w' => e = .returned (.bool true) ∧ Below w.heap.size w w' := by
  go_enter Try.func19, Try.ntmps19
  go_wp2_with fail
  go_at_call 21
  refine (h _).mono ?_
  rintro e w' ⟨rfl, rfl⟩
  go_wp2_with fail
  go_at_call 34
  refine (si _).mono ?_
  rintro e w1 ⟨rfl, hb1⟩
  have s1 := hb1.size
  try simp at s1
  go_wp2_with fail
  go_ret
  refine ⟨rfl, ?_⟩
  repeat (with_reducible first | exact Below.refl _ _ | assumption | refine Below.drew ?_ | refine bl_drewN ?_ _ | refine Below.setCell ?_ (by first | omega | (simp; done) | (simp; omega)) _ | refine Below.alloc ?_ (by first | omega | (simp; done) | (simp; omega)) _ | refine bl_next ?_ (by assumption) | refine bl_trans ?_ (by assumption) (by first | omega | (simp; done) | (simp; omega)))

set_option maxHeartbeats 1000000 in
theorem high_inf_w (v a b : Nat)
    (h : ∀ w, Calls Try.prog 21 #[.float .f64 v, .int .i64 0] w fun e w' => e = .returned (.bool true) ∧ w' = w)
    (o : (Ieee.double.order v 0 == some .gt) = true) (w : World) :
    Calls Try.prog 20 #[.float .f64 v, .float .f64 a, .float .f64 b] w fun e w' => e = .returned (.bool true) ∧ Below w.heap.size w w' := by
  go_enter Try.func20, Try.ntmps20
  go_wp2_with fail
  go_at_call 21
  refine (h _).mono ?_
  rintro e w' ⟨rfl, rfl⟩
  go_wp2_with fail
  go_ret
  refine ⟨rfl, ?_⟩
  repeat (with_reducible first | exact Below.refl _ _ | assumption | refine Below.drew ?_ | refine bl_drewN ?_ _ | refine Below.setCell ?_ (by first | omega | (simp; done) | (simp; omega)) _ | refine Below.alloc ?_ (by first | omega | (simp; done) | (simp; omega)) _ | refine bl_next ?_ (by assumption) | refine bl_trans ?_ (by assumption) (by first | omega | (simp; done) | (simp; omega)))

set_option maxHeartbeats 1000000 in
theorem high_w (v a b : Nat) (g : Int)
    (h : ∀ w, Calls Try.prog 21 #[.float .f64 v, .int .i64 0] w fun e w' => e = .returned (.bool false) ∧ w' = w)
    (si : ∀ w, Calls Try.prog 34 #[.int .i64 0, .float .f64 a, .float .f64 b, .float .f64 v] w fun e w' => e = .returned (.int .i64 g) ∧ Below w.heap.size w w')
    (hg : g ≤ 0) (w : World) :
    Calls Try.prog 20 #[.float .f64 v, .float .f64 a, .float .f64 b] w fun e w' => e = .returned (.bool true) ∧ Below w.heap.size w w' := by
  go_enter Try.func20, Try.ntmps20
  go_wp2_with fail
  go_at_call 21
  refine (h _).mono ?_
  rintro e w' ⟨rfl, rfl⟩
  go_wp2_with fail
  go_at_call 34
  refine (si _).mono ?_
  rintro e w1 ⟨rfl, hb1⟩
  have s1 := hb1.size
  try simp at s1
  go_wp2_with fail
  go_ret
  refine ⟨rfl, ?_⟩
  repeat (with_reducible first | exact Below.refl _ _ | assumption | refine Below.drew ?_ | refine bl_drewN ?_ _ | refine Below.setCell ?_ (by first | omega | (simp; done) | (simp; omega)) _ | refine Below.alloc ?_ (by first | omega | (simp; done) | (simp; omega)) _ | refine bl_next ?_ (by assumption) | refine bl_trans ?_ (by assumption) (by first | omega | (simp; done) | (simp; omega)))

set_option maxHeartbeats 1000000 in
theorem plain_no_w (a b r : Nat)
    (lo : ∀ w, Calls Try.prog 6 #[.agg #[.complex .f64 a b, .float .f64 r]] w fun e w' => e = .returned (.bool true) ∧ Below w.heap.size w w') (w : World) :
    Calls Try.prog 15 #[.agg #[.complex .f64 a b, .float .f64 r]] w fun e w' => e = .returned (.bool false) ∧ Below w.heap.size w w' := by
  go_enter Try.func15, Try.ntmps15
  go_wp2_with fail
  obtain ⟨w0, hw0⟩ : ∃ v, v = (w.alloc (.cells #[.complex .f64 a b, .float .f64 r] 26)) := ⟨_, rfl⟩
  rw [← hw0]
  have c00 : w0.cell? ⟨w.heap.size, 0, none⟩ = some (.complex .f64 a b) := by simp [hw0, go_sem]
  have c01 : w0.cell? ⟨w.heap.size, 1, none⟩ = some (.float .f64 r) := by simp [hw0, go_sem]
  have s0 : w.heap.size + 1 ≤ w0.heap.size := by simp [hw0]
  have hB0 : Below w.heap.size w w0 := by
    rw [hw0]
    repeat (with_reducible first | exact Below.refl _ _ | assumption | refine Below.drew ?_ | refine bl_drewN ?_ _ | refine Below.setCell ?_ (by first | omega | (simp; done) | (simp; omega)) _ | refine Below.alloc ?_ (by first | omega | (simp; done) | (simp; omega)) _ | refine bl_next ?_ (by assumption) | refine bl_trans ?_ (by assumption) (by first | omega | (simp; done) | (simp; omega)))
  clear hw0
  go_at_call 6
  refine (lo _).mono ?_
  rintro e w1 ⟨rfl, hb1⟩
  have s1 := hb1.size
  try simp at s1
  replace c00 := bkeep2 hb1 c00
  replace c01 := bkeep2 hb1 c01
  have l0 : w.heap.size < w1.heap.size := cell_lt c00
  go_wp2_with fail
  go_ret
  refine ⟨rfl, ?_⟩
  repeat (with_reducible first | exact Below.refl _ _ | assumption | refine Below.drew ?_ | refine bl_drewN ?_ _ | refine Below.setCell ?_ (by first | omega | (simp; done) | (simp; omega)) _ | refine Below.alloc ?_ (by first | omega | (simp; done) | (simp; omega)) _ | refine bl_next ?_ (by assumption) | refine bl_trans ?_ (by assumption) (by first | omega | (simp; done) | (simp; omega)))

set_option maxHeartbeats 1000000 in
theorem plain_t_w (a b r : Nat)
    (lo : ∀ w, Calls Try.prog 6 #[.agg #[.complex .f64 a b, .float .f64 r]] w fun e w' => e = .returned (.bool false) ∧ Below w.heap.size w w')
    (h : ∀ w, Calls Try.prog 21 #[.float .f64 r, .int .i64 0] w fun e w' => e = .returned (.bool true) ∧ w' = w) (w : World) :
    Calls Try.prog 15 #[.agg #[.complex .f64 a b, .float .f64 r]] w fun e w' => e = .returned (.bool false) ∧ Below w.heap.size w w' := by
  go_enter Try.func15, Try.ntmps15
  go_wp2_with fail
  obtain ⟨w0, hw0⟩ : ∃ v, v = (w.alloc (.cells #[.complex .f64 a b, .float .f64 r] 26)) := ⟨_, rfl⟩
  rw [← hw0]
  have c00 : w0.cell? ⟨w.heap.size, 0, none⟩ = some (.complex .f64 a b) := by simp [hw0, go_sem]
  have c01 : w0.cell? ⟨w.heap.size, 1, none⟩ = some (.float .f64 r) := by simp [hw0, go_sem]
  have s0 : w.heap.size + 1 ≤ w0.heap.size := by simp [hw0]
  have hB0 : Below w.heap.size w w0 := by
    rw [hw0]
    repeat (with_reducible first | exact Below.refl _ _ | assumption | refine Below.drew ?_ | refine bl_drewN ?_ _ | refine Below.setCell ?_ (by first | omega | (simp; done) | (simp; omega)) _ | refine Below.alloc ?_ (by first | omega | (simp; done) | (simp; omega)) _ | refine bl_next ?_ (by assumption) | refine bl_trans ?_ (by assumption) (by first | omega | (simp; done) | (simp; omega)))
  clear hw0
  go_at_call 6
  refine (lo _).mono ?_
  rintro e w1 ⟨rfl, hb1⟩
  have s1 := hb1.size
  try simp at s1
  replace c00 := bkeep2 hb1 c00
  replace c01 := bkeep2 hb1 c01
  have l0 : w.heap.size < w1.heap.size := cell_lt c00
  go_wp2_with fail
  go_at_call 21
  refine (h _).mono ?_
  rintro e w' ⟨rfl, rfl⟩
  go_wp2_with fail
  go_ret
  refine ⟨rfl, ?_⟩
  repeat (with_reducible first | exact Below.refl _ _ | assumption | refine Below.drew ?_ | refine bl_drewN ?_ _ | refine Below.setCell ?_ (by first | omega | (simp; done) | (simp; omega)) _ | refine Below.alloc ?_ (by first | omega | (simp; done) | (simp; omega)) _ | refine bl_next ?_ (by assumption) | refine bl_trans ?_ (by assumption) (by first | omega | (simp; done) | (simp; omega)))

set_option maxHeartbeats 1000000 in
theorem plain_f_w (a b r : Nat)
    (lo : ∀ w, Calls Try.prog 6 #[.agg #[.complex .f64 a b, .float .f64 r]] w fun e w' => e = .returned (.bool false) ∧ Below w.heap.size w w')
    (h : ∀ w, Calls Try.prog 21 #[.float .f64 r, .int .i64 0] w fun e w' => e = .returned (.bool false) ∧ w' = w) (w : World) :
    Calls Try.prog 15 #[.agg #[.complex .f64 a b, .float .f64 r]] w fun e w' => e = .returned (.bool true) ∧ Below w.heap.size w w' := by
  go_enter Try.func15, Try.ntmps15
  go_wp2_with fail
  obtain ⟨w0, hw0⟩ : ∃ v, v = (w.alloc (.cells #[.complex .f64 a b, .float .f64 r] 26)) := ⟨_, rfl⟩
  rw [← hw0]
  have c00 : w0.cell? ⟨w.heap.size, 0, none⟩ = some (.complex .f64 a b) := by simp [hw0, go_sem]
  have c01 : w0.cell? ⟨w.heap.size, 1, none⟩ = some (.float .f64 r) := by simp [hw0, go_sem]
  have s0 : w.heap.size + 1 ≤ w0.heap.size := by simp [hw0]
  have hB0 : Below w.heap.size w w0 := by
    rw [hw0]
    repeat (with_reducible first | exact Below.refl _ _ | assumption | refine Below.drew ?_ | refine bl_drewN ?_ _ | refine Below.setCell ?_ (by first | omega | (simp; done) | (simp; omega)) _ | refine Below.alloc ?_ (by first | omega | (simp; done) | (simp; omega)) _ | refine bl_next ?_ (by assumption) | refine bl_trans ?_ (by assumption) (by first | omega | (simp; done) | (simp; omega)))
  clear hw0
  go_at_call 6
  refine (lo _).mono ?_
  rintro e w1 ⟨rfl, hb1⟩
  have s1 := hb1.size
  try simp at s1
  replace c00 := bkeep2 hb1 c00
  replace c01 := bkeep2 hb1 c01
  have l0 : w.heap.size < w1.heap.size := cell_lt c00
  go_wp2_with fail
  go_at_call 21
  refine (h _).mono ?_
  rintro e w' ⟨rfl, rfl⟩
  go_wp2_with fail
  go_ret
  refine ⟨rfl, ?_⟩
  repeat (with_reducible first | exact Below.refl _ _ | assumption | refine Below.drew ?_ | refine bl_drewN ?_ _ | refine Below.setCell ?_ (by first | omega | (simp; done) | (simp; omega)) _ | refine Below.alloc ?_ (by first | omega | (simp; done) | (simp; omega)) _ | refine bl_next ?_ (by assumption) | refine bl_trans ?_ (by assumption) (by first | omega | (simp; done) | (simp; omega)))

end Go.Proofs.Ytacnclofbnafiab
