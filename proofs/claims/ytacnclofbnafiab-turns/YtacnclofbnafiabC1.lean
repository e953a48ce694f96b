import Derived.Test.YtacnclofbnafiabB1
import Derived.Laws.Cover3
namespace Go.Proofs.Ytacnclofbnafiab
open Go.RowKit Fl

@[go_sem] theorem buildDisc (a b r : Nat) (w : World) : (Instr.build 26 #[(0, .complex .f64 a b), (1, .float .f64 r)]).run Try.prog w = .ok (.agg #[.complex .f64 a b, .float .f64 r]) w := run_build w 26 _ _ (by kernel_rfl)
@[go_sem] theorem buildDiscR (r : Nat) (w : World) : (Instr.build 26 #[(1, .float .f64 r)]).run Try.prog w = .ok (.agg #[.complex .f64 0 0, .float .f64 r]) w := run_build w 26 _ _ (by kernel_rfl)
set_option maxHeartbeats 1000000 in
theorem addUp_w (a b d u : Nat)
    (h : ∀ w, Calls Try.prog 68 #[.float .f64 a, .float .f64 b] w fun e w' => e = .returned (.tuple #[.float .f64 d, .float .f64 u]) ∧ Below w.heap.size w w') (w : World) :
    Calls Try.prog 63 #[.float .f64 a, .float .f64 b] w fun e w' => e = .returned (.float .f64 u) ∧ Below w.heap.size w w' := by
  go_enter Try.func63, Try.ntmps63
  go_wp2_with fail
  go_at_call 68
  refine (h _).mono ?_
  rintro e w1 ⟨rfl, hb1⟩
  have s1 := hb1.size
  try simp at s1
  go_wp2_with fail
  go_ret
  refine ⟨rfl, ?_⟩
  repeat (with_reducible first | exact Below.refl _ _ | assumption | refine Below.drew ?_ | refine bl_drewN ?_ _ | refine Below.setCell ?_ (by first | omega | (simp; done) | (simp; omega)) _ | refine Below.alloc ?_ (by first | omega | (simp; done) | (simp; omega)) _ | refine bl_next ?_ (by assumption) | refine bl_trans ?_ (by assumption) (by first | omega | (simp; done) | (simp; omega)))

set_option maxHeartbeats 1000000 in
theorem mulUp_w (a b d u : Nat)
    (h : ∀ w, Calls Try.prog 76 #[.float .f64 a, .float .f64 b] w fun e w' => e = .returned (.tuple #[.float .f64 d, .float .f64 u]) ∧ Below w.heap.size w w') (w : World) :
    Calls Try.prog 70 #[.float .f64 a, .float .f64 b] w fun e w' => e = .returned (.float .f64 u) ∧ Below w.heap.size w w' := by
  go_enter Try.func70, Try.ntmps70
  go_wp2_with fail
  go_at_call 76
  refine (h _).mono ?_
  rintro e w1 ⟨rfl, hb1⟩
  have s1 := hb1.size
  try simp at s1
  go_wp2_with fail
  go_ret
  refine ⟨rfl, ?_⟩
  repeat (with_reducible first | exact Below.refl _ _ | assumption | refine Below.drew ?_ | refine bl_drewN ?_ _ | refine Below.setCell ?_ (by first | omega | (simp; done) | (simp; omega)) _ | refine Below.alloc ?_ (by first | omega | (simp; done) | (simp; omega)) _ | refine bl_next ?_ (by assumption) | refine bl_trans ?_ (by assumption) (by first | omega | (simp; done) | (simp; omega)))

set_option maxHeartbeats 1000000 in
theorem sqrtUp_w (a d u : Nat)
    (h : ∀ w, Calls Try.prog 77 #[.float .f64 a] w fun e w' => e = .returned (.tuple #[.float .f64 d, .float .f64 u]) ∧ Below w.heap.size w w') (w : World) :
    Calls Try.prog 71 #[.float .f64 a] w fun e w' => e = .returned (.float .f64 u) ∧ Below w.heap.size w w' := by
  go_enter Try.func71, Try.ntmps71
  go_wp2_with fail
  go_at_call 77
  refine (h _).mono ?_
  rintro e w1 ⟨rfl, hb1⟩
  have s1 := hb1.size
  try simp at s1
  go_wp2_with fail
  go_ret
  refine ⟨rfl, ?_⟩
  repeat (with_reducible first | exact Below.refl _ _ | assumption | refine Below.drew ?_ | refine bl_drewN ?_ _ | refine Below.setCell ?_ (by first | omega | (simp; done) | (simp; omega)) _ | refine Below.alloc ?_ (by first | omega | (simp; done) | (simp; omega)) _ | refine bl_next ?_ (by assumption) | refine bl_trans ?_ (by assumption) (by first | omega | (simp; done) | (simp; omega)))

set_option maxHeartbeats 1000000 in
theorem length_0_w (a b x y l : Nat)
    (ha : ∀ w, Calls Try.prog 35 #[.float .f64 a] w fun e w' => e = .returned (.float .f64 x) ∧ w' = w)
    (hb : ∀ w, Calls Try.prog 35 #[.float .f64 b] w fun e w' => e = .returned (.float .f64 y) ∧ w' = w)
    (h0 : (Ieee.double.order x 0 == some .eq) = true)
    (hs : Ieee.double.add x y = some l) (w : World) :
    Calls Try.prog 64 #[.float .f64 a, .float .f64 b] w fun e w' => e = .returned (.float .f64 l) ∧ Below w.heap.size w w' := by
  have ad := fun t' w => run_float_arith (P := Try.prog) w .add t' .f64 _ _ _ hs
  clear hs
  go_enter Try.func64, Try.ntmps64
  go_wp2_with fail
  go_at_call 35
  refine (ha _).mono ?_
  rintro e w' ⟨rfl, rfl⟩
  go_wp2_with fail
  go_at_call 35
  refine (hb _).mono ?_
  rintro e w' ⟨rfl, rfl⟩
  go_wp2_with fail
  go_ret
  refine ⟨rfl, ?_⟩
  repeat (with_reducible first | exact Below.refl _ _ | assumption | refine Below.drew ?_ | refine bl_drewN ?_ _ | refine Below.setCell ?_ (by first | omega | (simp; done) | (simp; omega)) _ | refine Below.alloc ?_ (by first | omega | (simp; done) | (simp; omega)) _ | refine bl_next ?_ (by assumption) | refine bl_trans ?_ (by assumption) (by first | omega | (simp; done) | (simp; omega)))

set_option maxHeartbeats 1000000 in
theorem length_1_w (a b x y l : Nat)
    (ha : ∀ w, Calls Try.prog 35 #[.float .f64 a] w fun e w' => e = .returned (.float .f64 x) ∧ w' = w)
    (hb : ∀ w, Calls Try.prog 35 #[.float .f64 b] w fun e w' => e = .returned (.float .f64 y) ∧ w' = w)
    (h0 : (Ieee.double.order x 0 == some .eq) = false)
    (h1 : (Ieee.double.order y 0 == some .eq) = true)
    (hs : Ieee.double.add x y = some l) (w : World) :
    Calls Try.prog 64 #[.float .f64 a, .float .f64 b] w fun e w' => e = .returned (.float .f64 l) ∧ Below w.heap.size w w' := by
  have ad := fun t' w => run_float_arith (P := Try.prog) w .add t' .f64 _ _ _ hs
  clear hs
  go_enter Try.func64, Try.ntmps64
  go_wp2_with fail
  go_at_call 35
  refine (ha _).mono ?_
  rintro e w' ⟨rfl, rfl⟩
  go_wp2_with fail
  go_at_call 35
  refine (hb _).mono ?_
  rintro e w' ⟨rfl, rfl⟩
  go_wp2_with fail
  go_ret
  refine ⟨rfl, ?_⟩
  repeat (with_reducible first | exact Below.refl _ _ | assumption | refine Below.drew ?_ | refine bl_drewN ?_ _ | refine Below.setCell ?_ (by first | omega | (simp; done) | (simp; omega)) _ | refine Below.alloc ?_ (by first | omega | (simp; done) | (simp; omega)) _ | refine bl_next ?_ (by assumption) | refine bl_trans ?_ (by assumption) (by first | omega | (simp; done) | (simp; omega)))

set_option maxHeartbeats 1000000 in
theorem length_m_w (a b x y z x1 y1 x2 y2 t r l : Nat)
    (ha : ∀ w, Calls Try.prog 35 #[.float .f64 a] w fun e w' => e = .returned (.float .f64 x) ∧ w' = w)
    (hb : ∀ w, Calls Try.prog 35 #[.float .f64 b] w fun e w' => e = .returned (.float .f64 y) ∧ w' = w)
    (h0 : (Ieee.double.order x 0 == some .eq) = false)
    (h1 : (Ieee.double.order y 0 == some .eq) = false)
    (hm : ∀ ts t w, (Builtin.max_ ts t #[.float .f64 x, .float .f64 y]).run Try.prog w = .ok (.float .f64 z) w)
    (h2 : (Ieee.double.order z 6858982232485265408 == some .gt) = false)
    (h3 : (Ieee.double.order z 2805742567851819008 == some .lt) = false)
    (hq : Ieee.double.div 4607182418800017408 4607182418800017408 = some 4607182418800017408)
    (m1 : ∀ w, Calls Try.prog 70 #[.float .f64 x, .float .f64 4607182418800017408] w fun e w' => e = .returned (.float .f64 x1) ∧ Below w.heap.size w w')
    (m2 : ∀ w, Calls Try.prog 70 #[.float .f64 y, .float .f64 4607182418800017408] w fun e w' => e = .returned (.float .f64 y1) ∧ Below w.heap.size w w')
    (m3 : ∀ w, Calls Try.prog 70 #[.float .f64 x1, .float .f64 x1] w fun e w' => e = .returned (.float .f64 x2) ∧ Below w.heap.size w w')
    (m4 : ∀ w, Calls Try.prog 70 #[.float .f64 y1, .float .f64 y1] w fun e w' => e = .returned (.float .f64 y2) ∧ Below w.heap.size w w')
    (m5 : ∀ w, Calls Try.prog 63 #[.float .f64 x2, .float .f64 y2] w fun e w' => e = .returned (.float .f64 t) ∧ Below w.heap.size w w')
    (m6 : ∀ w, Calls Try.prog 71 #[.float .f64 t] w fun e w' => e = .returned (.float .f64 r) ∧ Below w.heap.size w w')
    (m7 : ∀ w, Calls Try.prog 70 #[.float .f64 r, .float .f64 4607182418800017408] w fun e w' => e = .returned (.float .f64 l) ∧ Below w.heap.size w w') (w : World) :
    Calls Try.prog 64 #[.float .f64 a, .float .f64 b] w fun e w' => e = .returned (.float .f64 l) ∧ Below w.heap.size w w' := by
  have qd := fun t' w => run_float_arith (P := Try.prog) w .quo t' .f64 _ _ _ hq
  clear hq
  go_enter Try.func64, Try.ntmps64
  go_wp2_with fail
  go_at_call 35
  refine (ha _).mono ?_
  rintro e w' ⟨rfl, rfl⟩
  go_wp2_with fail
  go_at_call 35
  refine (hb _).mono ?_
  rintro e w' ⟨rfl, rfl⟩
  go_wp2_with fail
  go_at_call 70
  refine (m1 _).mono ?_
  rintro e w1 ⟨rfl, hb1⟩
  have s1 := hb1.size
  try simp at s1
  go_wp2_with fail
  go_at_call 70
  refine (m2 _).mono ?_
  rintro e w2 ⟨rfl, hb2⟩
  have s2 := hb2.size
  try simp at s2
  go_wp2_with fail
  go_at_call 70
  refine (m3 _).mono ?_
  rintro e w3 ⟨rfl, hb3⟩
  have s3 := hb3.size
  try simp at s3
  go_wp2_with fail
  go_at_call 70
  refine (m4 _).mono ?_
  rintro e w4 ⟨rfl, hb4⟩
  have s4 := hb4.size
  try simp at s4
  go_wp2_with fail
  go_at_call 63
  refine (m5 _).mono ?_
  rintro e w5 ⟨rfl, hb5⟩
  have s5 := hb5.size
  try simp at s5
  go_wp2_with fail
  go_at_call 71
  refine (m6 _).mono ?_
  rintro e w6 ⟨rfl, hb6⟩
  have s6 := hb6.size
  try simp at s6
  go_wp2_with fail
  go_at_call 70
  refine (m7 _).mono ?_
  rintro e w7 ⟨rfl, hb7⟩
  have s7 := hb7.size
  try simp at s7
  go_wp2_with fail
  go_ret
  refine ⟨rfl, ?_⟩
  repeat (with_reducible first | exact Below.refl _ _ | assumption | refine Below.drew ?_ | refine bl_drewN ?_ _ | refine Below.setCell ?_ (by first | omega | (simp; done) | (simp; omega)) _ | refine Below.alloc ?_ (by first | omega | (simp; done) | (simp; omega)) _ | refine bl_next ?_ (by assumption) | refine bl_trans ?_ (by assumption) (by first | omega | (simp; done) | (simp; omega)))

set_option maxHeartbeats 1000000 in
theorem length_g_w (a b x y z x1 y1 x2 y2 t r l : Nat)
    (ha : ∀ w, Calls Try.prog 35 #[.float .f64 a] w fun e w' => e = .returned (.float .f64 x) ∧ w' = w)
    (hb : ∀ w, Calls Try.prog 35 #[.float .f64 b] w fun e w' => e = .returned (.float .f64 y) ∧ w' = w)
    (h0 : (Ieee.double.order x 0 == some .eq) = false)
    (h1 : (Ieee.double.order y 0 == some .eq) = false)
    (hm : ∀ ts t w, (Builtin.max_ ts t #[.float .f64 x, .float .f64 y]).run Try.prog w = .ok (.float .f64 z) w)
    (h2 : (Ieee.double.order z 6858982232485265408 == some .gt) = true)
    (hq : Ieee.double.div 4607182418800017408 1905022642377719808 = some 7309342195222315008)
    (m1 : ∀ w, Calls Try.prog 70 #[.float .f64 x, .float .f64 1905022642377719808] w fun e w' => e = .returned (.float .f64 x1) ∧ Below w.heap.size w w')
    (m2 : ∀ w, Calls Try.prog 70 #[.float .f64 y, .float .f64 1905022642377719808] w fun e w' => e = .returned (.float .f64 y1) ∧ Below w.heap.size w w')
    (m3 : ∀ w, Calls Try.prog 70 #[.float .f64 x1, .float .f64 x1] w fun e w' => e = .returned (.float .f64 x2) ∧ Below w.heap.size w w')
    (m4 : ∀ w, Calls Try.prog 70 #[.float .f64 y1, .float .f64 y1] w fun e w' => e = .returned (.float .f64 y2) ∧ Below w.heap.size w w')
    (m5 : ∀ w, Calls Try.prog 63 #[.float .f64 x2, .float .f64 y2] w fun e w' => e = .returned (.float .f64 t) ∧ Below w.heap.size w w')
    (m6 : ∀ w, Calls Try.prog 71 #[.float .f64 t] w fun e w' => e = .returned (.float .f64 r) ∧ Below w.heap.size w w')
    (m7 : ∀ w, Calls Try.prog 70 #[.float .f64 r, .float .f64 7309342195222315008] w fun e w' => e = .returned (.float .f64 l) ∧ Below w.heap.size w w') (w : World) :
    Calls Try.prog 64 #[.float .f64 a, .float .f64 b] w fun e w' => e = .returned (.float .f64 l) ∧ Below w.heap.size w w' := by
  have qd := fun t' w => run_float_arith (P := Try.prog) w .quo t' .f64 _ _ _ hq
  clear hq
  go_enter Try.func64, Try.ntmps64
  go_wp2_with fail
  go_at_call 35
  refine (ha _).mono ?_
  rintro e w' ⟨rfl, rfl⟩
  go_wp2_with fail
  go_at_call 35
  refine (hb _).mono ?_
  rintro e w' ⟨rfl, rfl⟩
  go_wp2_with fail
  go_at_call 70
  refine (m1 _).mono ?_
  rintro e w1 ⟨rfl, hb1⟩
  have s1 := hb1.size
  try simp at s1
  go_wp2_with fail
  go_at_call 70
  refine (m2 _).mono ?_
  rintro e w2 ⟨rfl, hb2⟩
  have s2 := hb2.size
  try simp at s2
  go_wp2_with fail
  go_at_call 70
  refine (m3 _).mono ?_
  rintro e w3 ⟨rfl, hb3⟩
  have s3 := hb3.size
  try simp at s3
  go_wp2_with fail
  go_at_call 70
  refine (m4 _).mono ?_
  rintro e w4 ⟨rfl, hb4⟩
  have s4 := hb4.size
  try simp at s4
  go_wp2_with fail
  go_at_call 63
  refine (m5 _).mono ?_
  rintro e w5 ⟨rfl, hb5⟩
  have s5 := hb5.size
  try simp at s5
  go_wp2_with fail
  go_at_call 71
  refine (m6 _).mono ?_
  rintro e w6 ⟨rfl, hb6⟩
  have s6 := hb6.size
  try simp at s6
  go_wp2_with fail
  go_at_call 70
  refine (m7 _).mono ?_
  rintro e w7 ⟨rfl, hb7⟩
  have s7 := hb7.size
  try simp at s7
  go_wp2_with fail
  go_ret
  refine ⟨rfl, ?_⟩
  repeat (with_reducible first | exact Below.refl _ _ | assumption | refine Below.drew ?_ | refine bl_drewN ?_ _ | refine Below.setCell ?_ (by first | omega | (simp; done) | (simp; omega)) _ | refine Below.alloc ?_ (by first | omega | (simp; done) | (simp; omega)) _ | refine bl_next ?_ (by assumption) | refine bl_trans ?_ (by assumption) (by first | omega | (simp; done) | (simp; omega)))

set_option maxHeartbeats 1000000 in
theorem length_s_w (a b x y z x1 y1 x2 y2 t r l : Nat)
    (ha : ∀ w, Calls Try.prog 35 #[.float .f64 a] w fun e w' => e = .returned (.float .f64 x) ∧ w' = w)
    (hb : ∀ w, Calls Try.prog 35 #[.float .f64 b] w fun e w' => e = .returned (.float .f64 y) ∧ w' = w)
    (h0 : (Ieee.double.order x 0 == some .eq) = false)
    (h1 : (Ieee.double.order y 0 == some .eq) = false)
    (hm : ∀ ts t w, (Builtin.max_ ts t #[.float .f64 x, .float .f64 y]).run Try.prog w = .ok (.float .f64 z) w)
    (h2 : (Ieee.double.order z 6858982232485265408 == some .gt) = false)
    (h3 : (Ieee.double.order z 2805742567851819008 == some .lt) = true)
    (hq : Ieee.double.div 4607182418800017408 7309342195222315008 = some 1905022642377719808)
    (m1 : ∀ w, Calls Try.prog 70 #[.float .f64 x, .float .f64 7309342195222315008] w fun e w' => e = .returned (.float .f64 x1) ∧ Below w.heap.size w w')
    (m2 : ∀ w, Calls Try.prog 70 #[.float .f64 y, .float .f64 7309342195222315008] w fun e w' => e = .returned (.float .f64 y1) ∧ Below w.heap.size w w')
    (m3 : ∀ w, Calls Try.prog 70 #[.float .f64 x1, .float .f64 x1] w fun e w' => e = .returned (.float .f64 x2) ∧ Below w.heap.size w w')
    (m4 : ∀ w, Calls Try.prog 70 #[.float .f64 y1, .float .f64 y1] w fun e w' => e = .returned (.float .f64 y2) ∧ Below w.heap.size w w')
    (m5 : ∀ w, Calls Try.prog 63 #[.float .f64 x2, .float .f64 y2] w fun e w' => e = .returned (.float .f64 t) ∧ Below w.heap.size w w')
    (m6 : ∀ w, Calls Try.prog 71 #[.float .f64 t] w fun e w' => e = .returned (.float .f64 r) ∧ Below w.heap.size w w')
    (m7 : ∀ w, Calls Try.prog 70 #[.float .f64 r, .float .f64 1905022642377719808] w fun e w' => e = .returned (.float .f64 l) ∧ Below w.heap.size w w') (w : World) :
    Calls Try.prog 64 #[.float .f64 a, .float .f64 b] w fun e w' => e = .returned (.float .f64 l) ∧ Below w.heap.size w w' := by
  have qd := fun t' w => run_float_arith (P := Try.prog) w .quo t' .f64 _ _ _ hq
  clear hq
  go_enter Try.func64, Try.ntmps64
  go_wp2_with fail
  go_at_call 35
  refine (ha _).mono ?_
  rintro e w' ⟨rfl, rfl⟩
  go_wp2_with fail
  go_at_call 35
  refine (hb _).mono ?_
  rintro e w' ⟨rfl, rfl⟩
  go_wp2_with fail
  go_at_call 70
  refine (m1 _).mono ?_
  rintro e w1 ⟨rfl, hb1⟩
  have s1 := hb1.size
  try simp at s1
  go_wp2_with fail
  go_at_call 70
  refine (m2 _).mono ?_
  rintro e w2 ⟨rfl, hb2⟩
  have s2 := hb2.size
  try simp at s2
  go_wp2_with fail
  go_at_call 70
  refine (m3 _).mono ?_
  rintro e w3 ⟨rfl, hb3⟩
  have s3 := hb3.size
  try simp at s3
  go_wp2_with fail
  go_at_call 70
  refine (m4 _).mono ?_
  rintro e w4 ⟨rfl, hb4⟩
  have s4 := hb4.size
  try simp at s4
  go_wp2_with fail
  go_at_call 63
  refine (m5 _).mono ?_
  rintro e w5 ⟨rfl, hb5⟩
  have s5 := hb5.size
  try simp at s5
  go_wp2_with fail
  go_at_call 71
  refine (m6 _).mono ?_
  rintro e w6 ⟨rfl, hb6⟩
  have s6 := hb6.size
  try simp at s6
  go_wp2_with fail
  go_at_call 70
  refine (m7 _).mono ?_
  rintro e w7 ⟨rfl, hb7⟩
  have s7 := hb7.size
  try simp at s7
  go_wp2_with fail
  go_ret
  refine ⟨rfl, ?_⟩
  repeat (with_reducible first | exact Below.refl _ _ | assumption | refine Below.drew ?_ | refine bl_drewN ?_ _ | refine Below.setCell ?_ (by first | omega | (simp; done) | (simp; omega)) _ | refine Below.alloc ?_ (by first | omega | (simp; done) | (simp; omega)) _ | refine bl_next ?_ (by assumption) | refine bl_trans ?_ (by assumption) (by first | omega | (simp; done) | (simp; omega)))

set_option maxHeartbeats 1000000 in
theorem isNumber_nan_w (v : Nat)
    (n : ∀ w, Calls Try.prog 67 #[.float .f64 v] w fun e w' => e = .returned (.bool true) ∧ w' = w) (w : World) :
    Calls Try.prog 55 #[.float .f64 v] w fun e w' => e = .returned (.bool false) ∧ Below w.heap.size w w' := by
  go_enter Try.func55, Try.ntmps55
  go_wp2_with fail
  go_at_call 67
  refine (n _).mono ?_
  rintro e w' ⟨rfl, rfl⟩
  go_wp2_with fail
  go_ret
  refine ⟨rfl, ?_⟩
  repeat (with_reducible first | exact Below.refl _ _ | assumption | refine Below.drew ?_ | refine bl_drewN ?_ _ | refine Below.setCell ?_ (by first | omega | (simp; done) | (simp; omega)) _ | refine Below.alloc ?_ (by first | omega | (simp; done) | (simp; omega)) _ | refine bl_next ?_ (by assumption) | refine bl_trans ?_ (by assumption) (by first | omega | (simp; done) | (simp; omega)))

set_option maxHeartbeats 1000000 in
theorem isNumber_inf_w (v : Nat)
    (n : ∀ w, Calls Try.prog 67 #[.float .f64 v] w fun e w' => e = .returned (.bool false) ∧ w' = w)
    (i : ∀ w, Calls Try.prog 21 #[.float .f64 v, .int .i64 0] w fun e w' => e = .returned (.bool true) ∧ w' = w) (w : World) :
    Calls Try.prog 55 #[.float .f64 v] w fun e w' => e = .returned (.bool false) ∧ Below w.heap.size w w' := by
  go_enter Try.func55, Try.ntmps55
  go_wp2_with fail
  go_at_call 67
  refine (n _).mono ?_
  rintro e w' ⟨rfl, rfl⟩
  go_wp2_with fail
  go_at_call 21
  refine (i _).mono ?_
  rintro e w' ⟨rfl, rfl⟩
  go_wp2_with fail
  go_ret
  refine ⟨rfl, ?_⟩
  repeat (with_reducible first | exact Below.refl _ _ | assumption | refine Below.drew ?_ | refine bl_drewN ?_ _ | refine Below.setCell ?_ (by first | omega | (simp; done) | (simp; omega)) _ | refine Below.alloc ?_ (by first | omega | (simp; done) | (simp; omega)) _ | refine bl_next ?_ (by assumption) | refine bl_trans ?_ (by assumption) (by first | omega | (simp; done) | (simp; omega)))

set_option maxHeartbeats 1000000 in
theorem isNumber_ok_w (v : Nat)
    (n : ∀ w, Calls Try.prog 67 #[.float .f64 v] w fun e w' => e = .returned (.bool false) ∧ w' = w)
    (i : ∀ w, Calls Try.prog 21 #[.float .f64 v, .int .i64 0] w fun e w' => e = .returned (.bool false) ∧ w' = w) (w : World) :
    Calls Try.prog 55 #[.float .f64 v] w fun e w' => e = .returned (.bool true) ∧ Below w.heap.size w w' := by
  go_enter Try.func55, Try.ntmps55
  go_wp2_with fail
  go_at_call 67
  refine (n _).mono ?_
  rintro e w' ⟨rfl, rfl⟩
  go_wp2_with fail
  go_at_call 21
  refine (i _).mono ?_
  rintro e w' ⟨rfl, rfl⟩
  go_wp2_with fail
  go_ret
  refine ⟨rfl, ?_⟩
  repeat (with_reducible first | exact Below.refl _ _ | assumption | refine Below.drew ?_ | refine bl_drewN ?_ _ | refine Below.setCell ?_ (by first | omega | (simp; done) | (simp; omega)) _ | refine Below.alloc ?_ (by first | omega | (simp; done) | (simp; omega)) _ | refine bl_next ?_ (by assumption) | refine bl_trans ?_ (by assumption) (by first | omega | (simp; done) | (simp; omega)))

set_option maxHeartbeats 1000000 in
theorem endless_1_w (X1 X2 : Nat)
    (i : ∀ w, Calls Try.prog 21 #[.float .f64 X1, .int .i64 0] w fun e w' => e = .returned (.bool true) ∧ w' = w) (w : World) :
    Calls Try.prog 60 #[.agg #[.float .f64 X1, .float .f64 X2]] w fun e w' => e = .returned (.bool true) ∧ Below w.heap.size w w' := by
  go_enter Try.func60, Try.ntmps60
  go_wp2_with fail
  obtain ⟨w0, hw0⟩ : ∃ v, v = (w.alloc (.cells #[.float .f64 X1, .float .f64 X2] 30)) := ⟨_, rfl⟩
  rw [← hw0]
  have c00 : w0.cell? ⟨w.heap.size, 0, none⟩ = some (.float .f64 X1) := by simp [hw0, go_sem]
  have c01 : w0.cell? ⟨w.heap.size, 1, none⟩ = some (.float .f64 X2) := by simp [hw0, go_sem]
  have s0 : w.heap.size + 1 ≤ w0.heap.size := by simp [hw0]
  have hB0 : Below w.heap.size w w0 := by
    rw [hw0]
    repeat (with_reducible first | exact Below.refl _ _ | assumption | refine Below.drew ?_ | refine bl_drewN ?_ _ | refine Below.setCell ?_ (by first | omega | (simp; done) | (simp; omega)) _ | refine Below.alloc ?_ (by first | omega | (simp; done) | (simp; omega)) _ | refine bl_next ?_ (by assumption) | refine bl_trans ?_ (by assumption) (by first | omega | (simp; done) | (simp; omega)))
  clear hw0
  go_at_call 21
  refine (i _).mono ?_
  rintro e w' ⟨rfl, rfl⟩
  go_wp2_with fail
  go_ret
  refine ⟨rfl, ?_⟩
  repeat (with_reducible first | exact Below.refl _ _ | assumption | refine Below.drew ?_ | refine bl_drewN ?_ _ | refine Below.setCell ?_ (by first | omega | (simp; done) | (simp; omega)) _ | refine Below.alloc ?_ (by first | omega | (simp; done) | (simp; omega)) _ | refine bl_next ?_ (by assumption) | refine bl_trans ?_ (by assumption) (by first | omega | (simp; done) | (simp; omega)))

set_option maxHeartbeats 1000000 in
theorem endless_t_w (X1 X2 : Nat)
    (i : ∀ w, Calls Try.prog 21 #[.float .f64 X1, .int .i64 0] w fun e w' => e = .returned (.bool false) ∧ w' = w)
    (j : ∀ w, Calls Try.prog 21 #[.float .f64 X2, .int .i64 0] w fun e w' => e = .returned (.bool true) ∧ w' = w) (w : World) :
    Calls Try.prog 60 #[.agg #[.float .f64 X1, .float .f64 X2]] w fun e w' => e = .returned (.bool true) ∧ Below w.heap.size w w' := by
  go_enter Try.func60, Try.ntmps60
  go_wp2_with fail
  obtain ⟨w0, hw0⟩ : ∃ v, v = (w.alloc (.cells #[.float .f64 X1, .float .f64 X2] 30)) := ⟨_, rfl⟩
  rw [← hw0]
  have c00 : w0.cell? ⟨w.heap.size, 0, none⟩ = some (.float .f64 X1) := by simp [hw0, go_sem]
  have c01 : w0.cell? ⟨w.heap.size, 1, none⟩ = some (.float .f64 X2) := by simp [hw0, go_sem]
  have s0 : w.heap.size + 1 ≤ w0.heap.size := by simp [hw0]
  have hB0 : Below w.heap.size w w0 := by
    rw [hw0]
    repeat (with_reducible first | exact Below.refl _ _ | assumption | refine Below.drew ?_ | refine bl_drewN ?_ _ | refine Below.setCell ?_ (by first | omega | (simp; done) | (simp; omega)) _ | refine Below.alloc ?_ (by first | omega | (simp; done) | (simp; omega)) _ | refine bl_next ?_ (by assumption) | refine bl_trans ?_ (by assumption) (by first | omega | (simp; done) | (simp; omega)))
  clear hw0
  go_at_call 21
  refine (i _).mono ?_
  rintro e w' ⟨rfl, rfl⟩
  go_wp2_with fail
  go_at_call 21
  refine (j _).mono ?_
  rintro e w' ⟨rfl, rfl⟩
  go_wp2_with fail
  go_ret
  refine ⟨rfl, ?_⟩
  repeat (with_reducible first | exact Below.refl _ _ | assumption | refine Below.drew ?_ | refine bl_drewN ?_ _ | refine Below.setCell ?_ (by first | omega | (simp; done) | (simp; omega)) _ | refine Below.alloc ?_ (by first | omega | (simp; done) | (simp; omega)) _ | refine bl_next ?_ (by assumption) | refine bl_trans ?_ (by assumption) (by first | omega | (simp; done) | (simp; omega)))

set_option maxHeartbeats 1000000 in
theorem endless_f_w (X1 X2 : Nat)
    (i : ∀ w, Calls Try.prog 21 #[.float .f64 X1, .int .i64 0] w fun e w' => e = .returned (.bool false) ∧ w' = w)
    (j : ∀ w, Calls Try.prog 21 #[.float .f64 X2, .int .i64 0] w fun e w' => e = .returned (.bool false) ∧ w' = w) (w : World) :
    Calls Try.prog 60 #[.agg #[.float .f64 X1, .float .f64 X2]] w fun e w' => e = .returned (.bool false) ∧ Below w.heap.size w w' := by
  go_enter Try.func60, Try.ntmps60
  go_wp2_with fail
  obtain ⟨w0, hw0⟩ : ∃ v, v = (w.alloc (.cells #[.float .f64 X1, .float .f64 X2] 30)) := ⟨_, rfl⟩
  rw [← hw0]
  have c00 : w0.cell? ⟨w.heap.size, 0, none⟩ = some (.float .f64 X1) := by simp [hw0, go_sem]
  have c01 : w0.cell? ⟨w.heap.size, 1, none⟩ = some (.float .f64 X2) := by simp [hw0, go_sem]
  have s0 : w.heap.size + 1 ≤ w0.heap.size := by simp [hw0]
  have hB0 : Below w.heap.size w w0 := by
    rw [hw0]
    repeat (with_reducible first | exact Below.refl _ _ | assumption | refine Below.drew ?_ | refine bl_drewN ?_ _ | refine Below.setCell ?_ (by first | omega | (simp; done) | (simp; omega)) _ | refine Below.alloc ?_ (by first | omega | (simp; done) | (simp; omega)) _ | refine bl_next ?_ (by assumption) | refine bl_trans ?_ (by assumption) (by first | omega | (simp; done) | (simp; omega)))
  clear hw0
  go_at_call 21
  refine (i _).mono ?_
  rintro e w' ⟨rfl, rfl⟩
  go_wp2_with fail
  go_at_call 21
  refine (j _).mono ?_
  rintro e w' ⟨rfl, rfl⟩
  go_wp2_with fail
  go_ret
  refine ⟨rfl, ?_⟩
  repeat (with_reducible first | exact Below.refl _ _ | assumption | refine Below.drew ?_ | refine bl_drewN ?_ _ | refine Below.setCell ?_ (by first | omega | (simp; done) | (simp; omega)) _ | refine Below.alloc ?_ (by first | omega | (simp; done) | (simp; omega)) _ | refine bl_next ?_ (by assumption) | refine bl_trans ?_ (by assumption) (by first | omega | (simp; done) | (simp; omega)))

set_option maxHeartbeats 1000000 in
theorem hasAll_t_w (a b r : Nat)
    (i : ∀ w, Calls Try.prog 21 #[.float .f64 r, .int .i64 1] w fun e w' => e = .returned (.bool true) ∧ w' = w) (w : World) :
    Calls Try.prog 41 #[.agg #[.complex .f64 a b, .float .f64 r]] w fun e w' => e = .returned (.bool true) ∧ Below w.heap.size w w' := by
  go_enter Try.func41, Try.ntmps41
  go_wp2_with fail
  obtain ⟨w0, hw0⟩ : ∃ v, v = (w.alloc (.cells #[.complex .f64 a b, .float .f64 r] 26)) := ⟨_, rfl⟩
  rw [← hw0]
  have c00 : w0.cell? ⟨w.heap.size, 0, none⟩ = some (.complex .f64 a b) := by simp [hw0, go_sem]
  have c01 : w0.cell? ⟨w.heap.size, 1, none⟩ = some (.float .f64 r) := by simp [hw0, go_sem]
  have s0 : w.heap.size + 1 ≤ w0.heap.size := by simp [hw0]
  have hB0 : Below w.heap.size w w0 := by
    rw [hw0]
    repeat (with_reducible first | exact Below.refl _ _ | assumption | refine Below.drew ?_ | refine bl_drewN ?_ _ | refine Below.setCell ?_ (by first | omega | (simp; done) | (simp; omega)) _ | refine Below.alloc ?_ (by first | omega | (simp; done) | (simp; omega)) _ | refine bl_next ?_ (by assumption) | refine bl_trans ?_ (by assumption) (by first | omega | (simp; done) | (simp; omega)))
  clear hw0
  go_at_call 21
  refine (i _).mono ?_
  rintro e w' ⟨rfl, rfl⟩
  go_wp2_with fail
  go_ret
  refine ⟨rfl, ?_⟩
  repeat (with_reducible first | exact Below.refl _ _ | assumption | refine Below.drew ?_ | refine bl_drewN ?_ _ | refine Below.setCell ?_ (by first | omega | (simp; done) | (simp; omega)) _ | refine Below.alloc ?_ (by first | omega | (simp; done) | (simp; omega)) _ | refine bl_next ?_ (by assumption) | refine bl_trans ?_ (by assumption) (by first | omega | (simp; done) | (simp; omega)))

set_option maxHeartbeats 1000000 in
theorem hasAll_f_w (a b r : Nat)
    (i : ∀ w, Calls Try.prog 21 #[.float .f64 r, .int .i64 1] w fun e w' => e = .returned (.bool false) ∧ w' = w) (w : World) :
    Calls Try.prog 41 #[.agg #[.complex .f64 a b, .float .f64 r]] w fun e w' => e = .returned (.bool false) ∧ Below w.heap.size w w' := by
  go_enter Try.func41, Try.ntmps41
  go_wp2_with fail
  obtain ⟨w0, hw0⟩ : ∃ v, v = (w.alloc (.cells #[.complex .f64 a b, .float .f64 r] 26)) := ⟨_, rfl⟩
  rw [← hw0]
  have c00 : w0.cell? ⟨w.heap.size, 0, none⟩ = some (.complex .f64 a b) := by simp [hw0, go_sem]
  have c01 : w0.cell? ⟨w.heap.size, 1, none⟩ = some (.float .f64 r) := by simp [hw0, go_sem]
  have s0 : w.heap.size + 1 ≤ w0.heap.size := by simp [hw0]
  have hB0 : Below w.heap.size w w0 := by
    rw [hw0]
    repeat (with_reducible first | exact Below.refl _ _ | assumption | refine Below.drew ?_ | refine bl_drewN ?_ _ | refine Below.setCell ?_ (by first | omega | (simp; done) | (simp; omega)) _ | refine Below.alloc ?_ (by first | omega | (simp; done) | (simp; omega)) _ | refine bl_next ?_ (by assumption) | refine bl_trans ?_ (by assumption) (by first | omega | (simp; done) | (simp; omega)))
  clear hw0
  go_at_call 21
  refine (i _).mono ?_
  rintro e w' ⟨rfl, rfl⟩
  go_wp2_with fail
  go_ret
  refine ⟨rfl, ?_⟩
  repeat (with_reducible first | exact Below.refl _ _ | assumption | refine Below.drew ?_ | refine bl_drewN ?_ _ | refine Below.setCell ?_ (by first | omega | (simp; done) | (simp; omega)) _ | refine Below.alloc ?_ (by first | omega | (simp; done) | (simp; omega)) _ | refine bl_next ?_ (by assumption) | refine bl_trans ?_ (by assumption) (by first | omega | (simp; done) | (simp; omega)))

set_option maxHeartbeats 1000000 in
theorem hasNone_lt_w (a b r : Nat)
    (hr : Ieee.double.order r 0 = some .lt) (w : World) :
    Calls Try.prog 39 #[.agg #[.complex .f64 a b, .float .f64 r]] w fun e w' => e = .returned (.bool true) ∧ Below w.heap.size w w' := by
  go_enter Try.func39, Try.ntmps39
  go_wp2_with fail
  obtain ⟨w0, hw0⟩ : ∃ v, v = (w.alloc (.cells #[.complex .f64 a b, .float .f64 r] 26)) := ⟨_, rfl⟩
  rw [← hw0]
  have c00 : w0.cell? ⟨w.heap.size, 0, none⟩ = some (.complex .f64 a b) := by simp [hw0, go_sem]
  have c01 : w0.cell? ⟨w.heap.size, 1, none⟩ = some (.float .f64 r) := by simp [hw0, go_sem]
  have s0 : w.heap.size + 1 ≤ w0.heap.size := by simp [hw0]
  have hB0 : Below w.heap.size w w0 := by
    rw [hw0]
    repeat (with_reducible first | exact Below.refl _ _ | assumption | refine Below.drew ?_ | refine bl_drewN ?_ _ | refine Below.setCell ?_ (by first | omega | (simp; done) | (simp; omega)) _ | refine Below.alloc ?_ (by first | omega | (simp; done) | (simp; omega)) _ | refine bl_next ?_ (by assumption) | refine bl_trans ?_ (by assumption) (by first | omega | (simp; done) | (simp; omega)))
  clear hw0
  go_ret
  refine ⟨rfl, ?_⟩
  repeat (with_reducible first | exact Below.refl _ _ | assumption | refine Below.drew ?_ | refine bl_drewN ?_ _ | refine Below.setCell ?_ (by first | omega | (simp; done) | (simp; omega)) _ | refine Below.alloc ?_ (by first | omega | (simp; done) | (simp; omega)) _ | refine bl_next ?_ (by assumption) | refine bl_trans ?_ (by assumption) (by first | omega | (simp; done) | (simp; omega)))

set_option maxHeartbeats 1000000 in
theorem hasNone_nan_w (a b r : Nat)
    (hr : Ieee.double.order r 0 = none) (w : World) :
    Calls Try.prog 39 #[.agg #[.complex .f64 a b, .float .f64 r]] w fun e w' => e = .returned (.bool true) ∧ Below w.heap.size w w' := by
  go_enter Try.func39, Try.ntmps39
  go_wp2_with fail
  obtain ⟨w0, hw0⟩ : ∃ v, v = (w.alloc (.cells #[.complex .f64 a b, .float .f64 r] 26)) := ⟨_, rfl⟩
  rw [← hw0]
  have c00 : w0.cell? ⟨w.heap.size, 0, none⟩ = some (.complex .f64 a b) := by simp [hw0, go_sem]
  have c01 : w0.cell? ⟨w.heap.size, 1, none⟩ = some (.float .f64 r) := by simp [hw0, go_sem]
  have s0 : w.heap.size + 1 ≤ w0.heap.size := by simp [hw0]
  have hB0 : Below w.heap.size w w0 := by
    rw [hw0]
    repeat (with_reducible first | exact Below.refl _ _ | assumption | refine Below.drew ?_ | refine bl_drewN ?_ _ | refine Below.setCell ?_ (by first | omega | (simp; done) | (simp; omega)) _ | refine Below.alloc ?_ (by first | omega | (simp; done) | (simp; omega)) _ | refine bl_next ?_ (by assumption) | refine bl_trans ?_ (by assumption) (by first | omega | (simp; done) | (simp; omega)))
  clear hw0
  go_ret
  refine ⟨rfl, ?_⟩
  repeat (with_reducible first | exact Below.refl _ _ | assumption | refine Below.drew ?_ | refine bl_drewN ?_ _ | refine Below.setCell ?_ (by first | omega | (simp; done) | (simp; omega)) _ | refine Below.alloc ?_ (by first | omega | (simp; done) | (simp; omega)) _ | refine bl_next ?_ (by assumption) | refine bl_trans ?_ (by assumption) (by first | omega | (simp; done) | (simp; omega)))

set_option maxHeartbeats 1000000 in
theorem hasNone_gt_all_w (a b r : Nat)
    (hr : Ieee.double.order r 0 = some .gt)
    (al : ∀ w, Calls Try.prog 41 #[.agg #[.complex .f64 a b, .float .f64 r]] w fun e w' => e = .returned (.bool true) ∧ Below w.heap.size w w') (w : World) :
    Calls Try.prog 39 #[.agg #[.complex .f64 a b, .float .f64 r]] w fun e w' => e = .returned (.bool false) ∧ Below w.heap.size w w' := by
  go_enter Try.func39, Try.ntmps39
  go_wp2_with fail
  obtain ⟨w0, hw0⟩ : ∃ v, v = (w.alloc (.cells #[.complex .f64 a b, .float .f64 r] 26)) := ⟨_, rfl⟩
  rw [← hw0]
  have c00 : w0.cell? ⟨w.heap.size, 0, none⟩ = some (.complex .f64 a b) := by simp [hw0, go_sem]
  have c01 : w0.cell? ⟨w.heap.size, 1, none⟩ = some (.float .f64 r) := by simp [hw0, go_sem]
  have s0 : w.heap.size + 1 ≤ w0.heap.size := by simp [hw0]
  have hB0 : Below w.heap.size w w0 := by
    rw [hw0]
    repeat (with_reducible first | exact Below.refl _ _ | assumption | refine Below.drew ?_ | refine bl_drewN ?_ _ | refine Below.setCell ?_ (by first | omega | (simp; done) | (simp; omega)) _ | refine Below.alloc ?_ (by first | omega | (simp; done) | (simp; omega)) _ | refine bl_next ?_ (by assumption) | refine bl_trans ?_ (by assumption) (by first | omega | (simp; done) | (simp; omega)))
  clear hw0
  go_at_call 41
  refine (al _).mono ?_
  rintro e w1 ⟨rfl, hb1⟩
  have s1 := hb1.size
  try simp at s1
  replace c00 := bkeep2 hb1 c00
  replace c01 := bkeep2 hb1 c01
  have l0 : w.heap.size < w1.heap.size := cell_lt c00
  go_wp2_with fail
  go_ret
  refine ⟨rfl, ?_⟩
  repeat (with_reducible first | exact Below.refl _ _ | assumption | refine Below.drew ?_ | refine bl_drewN ?_ _ | refine Below.setCell ?_ (by first | omega | (simp; done) | (simp; omega)) _ | refine Below.alloc ?_ (by first | omega | (simp; done) | (simp; omega)) _ | refine bl_next ?_ (by assumption) | refine bl_trans ?_ (by assumption) (by first | omega | (simp; done) | (simp; omega)))

set_option maxHeartbeats 1000000 in
theorem hasNone_gt_re_w (a b r : Nat)
    (hr : Ieee.double.order r 0 = some .gt)
    (al : ∀ w, Calls Try.prog 41 #[.agg #[.complex .f64 a b, .float .f64 r]] w fun e w' => e = .returned (.bool false) ∧ Below w.heap.size w w')
    (n1 : ∀ w, Calls Try.prog 55 #[.float .f64 a] w fun e w' => e = .returned (.bool false) ∧ Below w.heap.size w w') (w : World) :
    Calls Try.prog 39 #[.agg #[.complex .f64 a b, .float .f64 r]] w fun e w' => e = .returned (.bool true) ∧ Below w.heap.size w w' := by
  go_enter Try.func39, Try.ntmps39
  go_wp2_with fail
  obtain ⟨w0, hw0⟩ : ∃ v, v = (w.alloc (.cells #[.complex .f64 a b, .float .f64 r] 26)) := ⟨_, rfl⟩
  rw [← hw0]
  have c00 : w0.cell? ⟨w.heap.size, 0, none⟩ = some (.complex .f64 a b) := by simp [hw0, go_sem]
  have c01 : w0.cell? ⟨w.heap.size, 1, none⟩ = some (.float .f64 r) := by simp [hw0, go_sem]
  have s0 : w.heap.size + 1 ≤ w0.heap.size := by simp [hw0]
  have hB0 : Below w.heap.size w w0 := by
    rw [hw0]
    repeat (with_reducible first | exact Below.refl _ _ | assumption | refine Below.drew ?_ | refine bl_drewN ?_ _ | refine Below.setCell ?_ (by first | omega | (simp; done) | (simp; omega)) _ | refine Below.alloc ?_ (by first | omega | (simp; done) | (simp; omega)) _ | refine bl_next ?_ (by assumption) | refine bl_trans ?_ (by assumption) (by first | omega | (simp; done) | (simp; omega)))
  clear hw0
  go_at_call 41
  refine (al _).mono ?_
  rintro e w1 ⟨rfl, hb1⟩
  have s1 := hb1.size
  try simp at s1
  replace c00 := bkeep2 hb1 c00
  replace c01 := bkeep2 hb1 c01
  have l0 : w.heap.size < w1.heap.size := cell_lt c00
  go_wp2_with fail
  go_at_call 55
  refine (n1 _).mono ?_
  rintro e w2 ⟨rfl, hb2⟩
  have s2 := hb2.size
  try simp at s2
  replace c00 := bkeep2 hb2 c00
  replace c01 := bkeep2 hb2 c01
  have l0 : w.heap.size < w2.heap.size := cell_lt c00
  go_wp2_with fail
  go_ret
  refine ⟨rfl, ?_⟩
  repeat (with_reducible first | exact Below.refl _ _ | assumption | refine Below.drew ?_ | refine bl_drewN ?_ _ | refine Below.setCell ?_ (by first | omega | (simp; done) | (simp; omega)) _ | refine Below.alloc ?_ (by first | omega | (simp; done) | (simp; omega)) _ | refine bl_next ?_ (by assumption) | refine bl_trans ?_ (by assumption) (by first | omega | (simp; done) | (simp; omega)))

set_option maxHeartbeats 1000000 in
theorem hasNone_gt_im_w (a b r : Nat)
    (hr : Ieee.double.order r 0 = some .gt)
    (al : ∀ w, Calls Try.prog 41 #[.agg #[.complex .f64 a b, .float .f64 r]] w fun e w' => e = .returned (.bool false) ∧ Below w.heap.size w w')
    (n1 : ∀ w, Calls Try.prog 55 #[.float .f64 a] w fun e w' => e = .returned (.bool true) ∧ Below w.heap.size w w')
    (n2 : ∀ w, Calls Try.prog 55 #[.float .f64 b] w fun e w' => e = .returned (.bool false) ∧ Below w.heap.size w w') (w : World) :
    Calls Try.prog 39 #[.agg #[.complex .f64 a b, .float .f64 r]] w fun e w' => e = .returned (.bool true) ∧ Below w.heap.size w w' := by
  go_enter Try.func39, Try.ntmps39
  go_wp2_with fail
  obtain ⟨w0, hw0⟩ : ∃ v, v = (w.alloc (.cells #[.complex .f64 a b, .float .f64 r] 26)) := ⟨_, rfl⟩
  rw [← hw0]
  have c00 : w0.cell? ⟨w.heap.size, 0, none⟩ = some (.complex .f64 a b) := by simp [hw0, go_sem]
  have c01 : w0.cell? ⟨w.heap.size, 1, none⟩ = some (.float .f64 r) := by simp [hw0, go_sem]
  have s0 : w.heap.size + 1 ≤ w0.heap.size := by simp [hw0]
  have hB0 : Below w.heap.size w w0 := by
    rw [hw0]
    repeat (with_reducible first | exact Below.refl _ _ | assumption | refine Below.drew ?_ | refine bl_drewN ?_ _ | refine Below.setCell ?_ (by first | omega | (simp; done) | (simp; omega)) _ | refine Below.alloc ?_ (by first | omega | (simp; done) | (simp; omega)) _ | refine bl_next ?_ (by assumption) | refine bl_trans ?_ (by assumption) (by first | omega | (simp; done) | (simp; omega)))
  clear hw0
  go_at_call 41
  refine (al _).mono ?_
  rintro e w1 ⟨rfl, hb1⟩
  have s1 := hb1.size
  try simp at s1
  replace c00 := bkeep2 hb1 c00
  replace c01 := bkeep2 hb1 c01
  have l0 : w.heap.size < w1.heap.size := cell_lt c00
  go_wp2_with fail
  go_at_call 55
  refine (n1 _).mono ?_
  rintro e w2 ⟨rfl, hb2⟩
  have s2 := hb2.size
  try simp at s2
  replace c00 := bkeep2 hb2 c00
  replace c01 := bkeep2 hb2 c01
  have l0 : w.heap.size < w2.heap.size := cell_lt c00
  go_wp2_with fail
  go_at_call 55
  refine (n2 _).mono ?_
  rintro e w3 ⟨rfl, hb3⟩
  have s3 := hb3.size
  try simp at s3
  replace c00 := bkeep2 hb3 c00
  replace c01 := bkeep2 hb3 c01
  have l0 : w.heap.size < w3.heap.size := cell_lt c00
  go_wp2_with fail
  go_ret
  refine ⟨rfl, ?_⟩
  repeat (with_reducible first | exact Below.refl _ _ | assumption | refine Below.drew ?_ | refine bl_drewN ?_ _ | refine Below.setCell ?_ (by first | omega | (simp; done) | (simp; omega)) _ | refine Below.alloc ?_ (by first | omega | (simp; done) | (simp; omega)) _ | refine bl_next ?_ (by assumption) | refine bl_trans ?_ (by assumption) (by first | omega | (simp; done) | (simp; omega)))

set_option maxHeartbeats 1000000 in
theorem hasNone_gt_ok_w (a b r : Nat)
    (hr : Ieee.double.order r 0 = some .gt)
    (al : ∀ w, Calls Try.prog 41 #[.agg #[.complex .f64 a b, .float .f64 r]] w fun e w' => e = .returned (.bool false) ∧ Below w.heap.size w w')
    (n1 : ∀ w, Calls Try.prog 55 #[.float .f64 a] w fun e w' => e = .returned (.bool true) ∧ Below w.heap.size w w')
    (n2 : ∀ w, Calls Try.prog 55 #[.float .f64 b] w fun e w' => e = .returned (.bool true) ∧ Below w.heap.size w w') (w : World) :
    Calls Try.prog 39 #[.agg #[.complex .f64 a b, .float .f64 r]] w fun e w' => e = .returned (.bool false) ∧ Below w.heap.size w w' := by
  go_enter Try.func39, Try.ntmps39
  go_wp2_with fail
  obtain ⟨w0, hw0⟩ : ∃ v, v = (w.alloc (.cells #[.complex .f64 a b, .float .f64 r] 26)) := ⟨_, rfl⟩
  rw [← hw0]
  have c00 : w0.cell? ⟨w.heap.size, 0, none⟩ = some (.complex .f64 a b) := by simp [hw0, go_sem]
  have c01 : w0.cell? ⟨w.heap.size, 1, none⟩ = some (.float .f64 r) := by simp [hw0, go_sem]
  have s0 : w.heap.size + 1 ≤ w0.heap.size := by simp [hw0]
  have hB0 : Below w.heap.size w w0 := by
    rw [hw0]
    repeat (with_reducible first | exact Below.refl _ _ | assumption | refine Below.drew ?_ | refine bl_drewN ?_ _ | refine Below.setCell ?_ (by first | omega | (simp; done) | (simp; omega)) _ | refine Below.alloc ?_ (by first | omega | (simp; done) | (simp; omega)) _ | refine bl_next ?_ (by assumption) | refine bl_trans ?_ (by assumption) (by first | omega | (simp; done) | (simp; omega)))
  clear hw0
  go_at_call 41
  refine (al _).mono ?_
  rintro e w1 ⟨rfl, hb1⟩
  have s1 := hb1.size
  try simp at s1
  replace c00 := bkeep2 hb1 c00
  replace c01 := bkeep2 hb1 c01
  have l0 : w.heap.size < w1.heap.size := cell_lt c00
  go_wp2_with fail
  go_at_call 55
  refine (n1 _).mono ?_
  rintro e w2 ⟨rfl, hb2⟩
  have s2 := hb2.size
  try simp at s2
  replace c00 := bkeep2 hb2 c00
  replace c01 := bkeep2 hb2 c01
  have l0 : w.heap.size < w2.heap.size := cell_lt c00
  go_wp2_with fail
  go_at_call 55
  refine (n2 _).mono ?_
  rintro e w3 ⟨rfl, hb3⟩
  have s3 := hb3.size
  try simp at s3
  replace c00 := bkeep2 hb3 c00
  replace c01 := bkeep2 hb3 c01
  have l0 : w.heap.size < w3.heap.size := cell_lt c00
  go_wp2_with fail
  go_ret
  refine ⟨rfl, ?_⟩
  repeat (with_reducible first | exact Below.refl _ _ | assumption | refine Below.drew ?_ | refine bl_drewN ?_ _ | refine Below.setCell ?_ (by first | omega | (simp; done) | (simp; omega)) _ | refine Below.alloc ?_ (by first | omega | (simp; done) | (simp; omega)) _ | refine bl_next ?_ (by assumption) | refine bl_trans ?_ (by assumption) (by first | omega | (simp; done) | (simp; omega)))

set_option maxHeartbeats 1000000 in
theorem hasNone_eq_re_w (a b r : Nat)
    (hr : Ieee.double.order r 0 = some .eq)
    (al : ∀ w, Calls Try.prog 41 #[.agg #[.complex .f64 a b, .float .f64 r]] w fun e w' => e = .returned (.bool false) ∧ Below w.heap.size w w')
    (n1 : ∀ w, Calls Try.prog 55 #[.float .f64 a] w fun e w' => e = .returned (.bool false) ∧ Below w.heap.size w w') (w : World) :
    Calls Try.prog 39 #[.agg #[.complex .f64 a b, .float .f64 r]] w fun e w' => e = .returned (.bool true) ∧ Below w.heap.size w w' := by
  go_enter Try.func39, Try.ntmps39
  go_wp2_with fail
  obtain ⟨w0, hw0⟩ : ∃ v, v = (w.alloc (.cells #[.complex .f64 a b, .float .f64 r] 26)) := ⟨_, rfl⟩
  rw [← hw0]
  have c00 : w0.cell? ⟨w.heap.size, 0, none⟩ = some (.complex .f64 a b) := by simp [hw0, go_sem]
  have c01 : w0.cell? ⟨w.heap.size, 1, none⟩ = some (.float .f64 r) := by simp [hw0, go_sem]
  have s0 : w.heap.size + 1 ≤ w0.heap.size := by simp [hw0]
  have hB0 : Below w.heap.size w w0 := by
    rw [hw0]
    repeat (with_reducible first | exact Below.refl _ _ | assumption | refine Below.drew ?_ | refine bl_drewN ?_ _ | refine Below.setCell ?_ (by first | omega | (simp; done) | (simp; omega)) _ | refine Below.alloc ?_ (by first | omega | (simp; done) | (simp; omega)) _ | refine bl_next ?_ (by assumption) | refine bl_trans ?_ (by assumption) (by first | omega | (simp; done) | (simp; omega)))
  clear hw0
  go_at_call 41
  refine (al _).mono ?_
  rintro e w1 ⟨rfl, hb1⟩
  have s1 := hb1.size
  try simp at s1
  replace c00 := bkeep2 hb1 c00
  replace c01 := bkeep2 hb1 c01
  have l0 : w.heap.size < w1.heap.size := cell_lt c00
  go_wp2_with fail
  go_at_call 55
  refine (n1 _).mono ?_
  rintro e w2 ⟨rfl, hb2⟩
  have s2 := hb2.size
  try simp at s2
  replace c00 := bkeep2 hb2 c00
  replace c01 := bkeep2 hb2 c01
  have l0 : w.heap.size < w2.heap.size := cell_lt c00
  go_wp2_with fail
  go_ret
  refine ⟨rfl, ?_⟩
  repeat (with_reducible first | exact Below.refl _ _ | assumption | refine Below.drew ?_ | refine bl_drewN ?_ _ | refine Below.setCell ?_ (by first | omega | (simp; done) | (simp; omega)) _ | refine Below.alloc ?_ (by first | omega | (simp; done) | (simp; omega)) _ | refine bl_next ?_ (by assumption) | refine bl_trans ?_ (by assumption) (by first | omega | (simp; done) | (simp; omega)))

set_option maxHeartbeats 1000000 in
theorem hasNone_eq_im_w (a b r : Nat)
    (hr : Ieee.double.order r 0 = some .eq)
    (al : ∀ w, Calls Try.prog 41 #[.agg #[.complex .f64 a b, .float .f64 r]] w fun e w' => e = .returned (.bool false) ∧ Below w.heap.size w w')
    (n1 : ∀ w, Calls Try.prog 55 #[.float .f64 a] w fun e w' => e = .returned (.bool true) ∧ Below w.heap.size w w')
    (n2 : ∀ w, Calls Try.prog 55 #[.float .f64 b] w fun e w' => e = .returned (.bool false) ∧ Below w.heap.size w w') (w : World) :
    Calls Try.prog 39 #[.agg #[.complex .f64 a b, .float .f64 r]] w fun e w' => e = .returned (.bool true) ∧ Below w.heap.size w w' := by
  go_enter Try.func39, Try.ntmps39
  go_wp2_with fail
  obtain ⟨w0, hw0⟩ : ∃ v, v = (w.alloc (.cells #[.complex .f64 a b, .float .f64 r] 26)) := ⟨_, rfl⟩
  rw [← hw0]
  have c00 : w0.cell? ⟨w.heap.size, 0, none⟩ = some (.complex .f64 a b) := by simp [hw0, go_sem]
  have c01 : w0.cell? ⟨w.heap.size, 1, none⟩ = some (.float .f64 r) := by simp [hw0, go_sem]
  have s0 : w.heap.size + 1 ≤ w0.heap.size := by simp [hw0]
  have hB0 : Below w.heap.size w w0 := by
    rw [hw0]
    repeat (with_reducible first | exact Below.refl _ _ | assumption | refine Below.drew ?_ | refine bl_drewN ?_ _ | refine Below.setCell ?_ (by first | omega | (simp; done) | (simp; omega)) _ | refine Below.alloc ?_ (by first | omega | (simp; done) | (simp; omega)) _ | refine bl_next ?_ (by assumption) | refine bl_trans ?_ (by assumption) (by first | omega | (simp; done) | (simp; omega)))
  clear hw0
  go_at_call 41
  refine (al _).mono ?_
  rintro e w1 ⟨rfl, hb1⟩
  have s1 := hb1.size
  try simp at s1
  replace c00 := bkeep2 hb1 c00
  replace c01 := bkeep2 hb1 c01
  have l0 : w.heap.size < w1.heap.size := cell_lt c00
  go_wp2_with fail
  go_at_call 55
  refine (n1 _).mono ?_
  rintro e w2 ⟨rfl, hb2⟩
  have s2 := hb2.size
  try simp at s2
  replace c00 := bkeep2 hb2 c00
  replace c01 := bkeep2 hb2 c01
  have l0 : w.heap.size < w2.heap.size := cell_lt c00
  go_wp2_with fail
  go_at_call 55
  refine (n2 _).mono ?_
  rintro e w3 ⟨rfl, hb3⟩
  have s3 := hb3.size
  try simp at s3
  replace c00 := bkeep2 hb3 c00
  replace c01 := bkeep2 hb3 c01
  have l0 : w.heap.size < w3.heap.size := cell_lt c00
  go_wp2_with fail
  go_ret
  refine ⟨rfl, ?_⟩
  repeat (with_reducible first | exact Below.refl _ _ | assumption | refine Below.drew ?_ | refine bl_drewN ?_ _ | refine Below.setCell ?_ (by first | omega | (simp; done) | (simp; omega)) _ | refine Below.alloc ?_ (by first | omega | (simp; done) | (simp; omega)) _ | refine bl_next ?_ (by assumption) | refine bl_trans ?_ (by assumption) (by first | omega | (simp; done) | (simp; omega)))

set_option maxHeartbeats 1000000 in
theorem hasNone_eq_ok_w (a b r : Nat)
    (hr : Ieee.double.order r 0 = some .eq)
    (al : ∀ w, Calls Try.prog 41 #[.agg #[.complex .f64 a b, .float .f64 r]] w fun e w' => e = .returned (.bool false) ∧ Below w.heap.size w w')
    (n1 : ∀ w, Calls Try.prog 55 #[.float .f64 a] w fun e w' => e = .returned (.bool true) ∧ Below w.heap.size w w')
    (n2 : ∀ w, Calls Try.prog 55 #[.float .f64 b] w fun e w' => e = .returned (.bool true) ∧ Below w.heap.size w w') (w : World) :
    Calls Try.prog 39 #[.agg #[.complex .f64 a b, .float .f64 r]] w fun e w' => e = .returned (.bool false) ∧ Below w.heap.size w w' := by
  go_enter Try.func39, Try.ntmps39
  go_wp2_with fail
  obtain ⟨w0, hw0⟩ : ∃ v, v = (w.alloc (.cells #[.complex .f64 a b, .float .f64 r] 26)) := ⟨_, rfl⟩
  rw [← hw0]
  have c00 : w0.cell? ⟨w.heap.size, 0, none⟩ = some (.complex .f64 a b) := by simp [hw0, go_sem]
  have c01 : w0.cell? ⟨w.heap.size, 1, none⟩ = some (.float .f64 r) := by simp [hw0, go_sem]
  have s0 : w.heap.size + 1 ≤ w0.heap.size := by simp [hw0]
  have hB0 : Below w.heap.size w w0 := by
    rw [hw0]
    repeat (with_reducible first | exact Below.refl _ _ | assumption | refine Below.drew ?_ | refine bl_drewN ?_ _ | refine Below.setCell ?_ (by first | omega | (simp; done) | (simp; omega)) _ | refine Below.alloc ?_ (by first | omega | (simp; done) | (simp; omega)) _ | refine bl_next ?_ (by assumption) | refine bl_trans ?_ (by assumption) (by first | omega | (simp; done) | (simp; omega)))
  clear hw0
  go_at_call 41
  refine (al _).mono ?_
  rintro e w1 ⟨rfl, hb1⟩
  have s1 := hb1.size
  try simp at s1
  replace c00 := bkeep2 hb1 c00
  replace c01 := bkeep2 hb1 c01
  have l0 : w.heap.size < w1.heap.size := cell_lt c00
  go_wp2_with fail
  go_at_call 55
  refine (n1 _).mono ?_
  rintro e w2 ⟨rfl, hb2⟩
  have s2 := hb2.size
  try simp at s2
  replace c00 := bkeep2 hb2 c00
  replace c01 := bkeep2 hb2 c01
  have l0 : w.heap.size < w2.heap.size := cell_lt c00
  go_wp2_with fail
  go_at_call 55
  refine (n2 _).mono ?_
  rintro e w3 ⟨rfl, hb3⟩
  have s3 := hb3.size
  try simp at s3
  replace c00 := bkeep2 hb3 c00
  replace c01 := bkeep2 hb3 c01
  have l0 : w.heap.size < w3.heap.size := cell_lt c00
  go_wp2_with fail
  go_ret
  refine ⟨rfl, ?_⟩
  repeat (with_reducible first | exact Below.refl _ _ | assumption | refine Below.drew ?_ | refine bl_drewN ?_ _ | refine Below.setCell ?_ (by first | omega | (simp; done) | (simp; omega)) _ | refine Below.alloc ?_ (by first | omega | (simp; done) | (simp; omega)) _ | refine bl_next ?_ (by assumption) | refine bl_trans ?_ (by assumption) (by first | omega | (simp; done) | (simp; omega)))

set_option maxHeartbeats 1000000 in
theorem middle_1_w (X1 X2 s m p : Nat)
    (h1 : Ieee.double.add X1 X2 = some s)
    (h2 : Ieee.double.div s 4611686018427387904 = some m)
    (i : ∀ w, Calls Try.prog 21 #[.float .f64 m, .int .i64 0] w fun e w' => e = .returned (.bool false) ∧ w' = w)
    (pl : ∀ w, Calls Try.prog 69 #[.float .f64 m] w fun e w' => e = .returned (.float .f64 p) ∧ w' = w) (w : World) :
    Calls Try.prog 62 #[.agg #[.float .f64 X1, .float .f64 X2]] w fun e w' => e = .returned (.float .f64 p) ∧ Below w.heap.size w w' := by
  have a1 := fun t' w => run_float_arith (P := Try.prog) w .add t' .f64 _ _ _ h1
  have a2 := fun t' w => run_float_arith (P := Try.prog) w .quo t' .f64 _ _ _ h2
  clear h1 h2
  go_enter Try.func62, Try.ntmps62
  go_wp2_with fail
  obtain ⟨w0, hw0⟩ : ∃ v, v = (w.alloc (.cells #[.float .f64 X1, .float .f64 X2] 30)) := ⟨_, rfl⟩
  rw [← hw0]
  have c00 : w0.cell? ⟨w.heap.size, 0, none⟩ = some (.float .f64 X1) := by simp [hw0, go_sem]
  have c01 : w0.cell? ⟨w.heap.size, 1, none⟩ = some (.float .f64 X2) := by simp [hw0, go_sem]
  have s0 : w.heap.size + 1 ≤ w0.heap.size := by simp [hw0]
  have hB0 : Below w.heap.size w w0 := by
    rw [hw0]
    repeat (with_reducible first | exact Below.refl _ _ | assumption | refine Below.drew ?_ | refine bl_drewN ?_ _ | refine Below.setCell ?_ (by first | omega | (simp; done) | (simp; omega)) _ | refine Below.alloc ?_ (by first | omega | (simp; done) | (simp; omega)) _ | refine bl_next ?_ (by assumption) | refine bl_trans ?_ (by assumption) (by first | omega | (simp; done) | (simp; omega)))
  clear hw0
  go_at_call 21
  refine (i _).mono ?_
  rintro e w' ⟨rfl, rfl⟩
  go_wp2_with fail
  go_at_call 69
  refine (pl _).mono ?_
  rintro e w' ⟨rfl, rfl⟩
  go_wp2_with fail
  go_ret
  refine ⟨rfl, ?_⟩
  repeat (with_reducible first | exact Below.refl _ _ | assumption | refine Below.drew ?_ | refine bl_drewN ?_ _ | refine Below.setCell ?_ (by first | omega | (simp; done) | (simp; omega)) _ | refine Below.alloc ?_ (by first | omega | (simp; done) | (simp; omega)) _ | refine bl_next ?_ (by assumption) | refine bl_trans ?_ (by assumption) (by first | omega | (simp; done) | (simp; omega)))

set_option maxHeartbeats 1000000 in
theorem middle_2_w (X1 X2 s m u v n p : Nat)
    (h1 : Ieee.double.add X1 X2 = some s)
    (h2 : Ieee.double.div s 4611686018427387904 = some m)
    (i : ∀ w, Calls Try.prog 21 #[.float .f64 m, .int .i64 0] w fun e w' => e = .returned (.bool true) ∧ w' = w)
    (h3 : Ieee.double.div X1 4611686018427387904 = some u)
    (h4 : Ieee.double.div X2 4611686018427387904 = some v)
    (h5 : Ieee.double.add u v = some n)
    (pl : ∀ w, Calls Try.prog 69 #[.float .f64 n] w fun e w' => e = .returned (.float .f64 p) ∧ w' = w) (w : World) :
    Calls Try.prog 62 #[.agg #[.float .f64 X1, .float .f64 X2]] w fun e w' => e = .returned (.float .f64 p) ∧ Below w.heap.size w w' := by
  have a1 := fun t' w => run_float_arith (P := Try.prog) w .add t' .f64 _ _ _ h1
  have a2 := fun t' w => run_float_arith (P := Try.prog) w .quo t' .f64 _ _ _ h2
  have a3 := fun t' w => run_float_arith (P := Try.prog) w .quo t' .f64 _ _ _ h3
  have a4 := fun t' w => run_float_arith (P := Try.prog) w .quo t' .f64 _ _ _ h4
  have a5 := fun t' w => run_float_arith (P := Try.prog) w .add t' .f64 _ _ _ h5
  clear h1 h2 h3 h4 h5
  go_enter Try.func62, Try.ntmps62
  go_wp2_with fail
  obtain ⟨w0, hw0⟩ : ∃ v, v = (w.alloc (.cells #[.float .f64 X1, .float .f64 X2] 30)) := ⟨_, rfl⟩
  rw [← hw0]
  have c00 : w0.cell? ⟨w.heap.size, 0, none⟩ = some (.float .f64 X1) := by simp [hw0, go_sem]
  have c01 : w0.cell? ⟨w.heap.size, 1, none⟩ = some (.float .f64 X2) := by simp [hw0, go_sem]
  have s0 : w.heap.size + 1 ≤ w0.heap.size := by simp [hw0]
  have hB0 : Below w.heap.size w w0 := by
    rw [hw0]
    repeat (with_reducible first | exact Below.refl _ _ | assumption | refine Below.drew ?_ | refine bl_drewN ?_ _ | refine Below.setCell ?_ (by first | omega | (simp; done) | (simp; omega)) _ | refine Below.alloc ?_ (by first | omega | (simp; done) | (simp; omega)) _ | refine bl_next ?_ (by assumption) | refine bl_trans ?_ (by assumption) (by first | omega | (simp; done) | (simp; omega)))
  clear hw0
  go_at_call 21
  refine (i _).mono ?_
  rintro e w' ⟨rfl, rfl⟩
  go_wp2_with fail
  go_at_call 69
  refine (pl _).mono ?_
  rintro e w' ⟨rfl, rfl⟩
  go_wp2_with fail
  go_ret
  refine ⟨rfl, ?_⟩
  repeat (with_reducible first | exact Below.refl _ _ | assumption | refine Below.drew ?_ | refine bl_drewN ?_ _ | refine Below.setCell ?_ (by first | omega | (simp; done) | (simp; omega)) _ | refine Below.alloc ?_ (by first | omega | (simp; done) | (simp; omega)) _ | refine bl_next ?_ (by assumption) | refine bl_trans ?_ (by assumption) (by first | omega | (simp; done) | (simp; omega)))

set_option maxHeartbeats 1000000 in
theorem reach_w (X1 X2 m mn ln p q r : Nat)
    (g1 : Op.unary .neg (.float .f64 m) = pure (.float .f64 mn))
    (g2 : Op.unary .neg (.float .f64 X1) = pure (.float .f64 ln))
    (u1 : ∀ w, Calls Try.prog 63 #[.float .f64 X2, .float .f64 mn] w fun e w' => e = .returned (.float .f64 p) ∧ Below w.heap.size w w')
    (u2 : ∀ w, Calls Try.prog 63 #[.float .f64 m, .float .f64 ln] w fun e w' => e = .returned (.float .f64 q) ∧ Below w.heap.size w w')
    (hm : ∀ ts t w, (Builtin.max_ ts t #[.float .f64 p, .float .f64 q]).run Try.prog w = .ok (.float .f64 r) w) (w : World) :
    Calls Try.prog 65 #[.agg #[.float .f64 X1, .float .f64 X2], .float .f64 m] w fun e w' => e = .returned (.float .f64 r) ∧ Below w.heap.size w w' := by
  go_enter Try.func65, Try.ntmps65
  go_wp2_with fail
  obtain ⟨w0, hw0⟩ : ∃ v, v = (w.alloc (.cells #[.float .f64 X1, .float .f64 X2] 30)) := ⟨_, rfl⟩
  rw [← hw0]
  have c00 : w0.cell? ⟨w.heap.size, 0, none⟩ = some (.float .f64 X1) := by simp [hw0, go_sem]
  have c01 : w0.cell? ⟨w.heap.size, 1, none⟩ = some (.float .f64 X2) := by simp [hw0, go_sem]
  have s0 : w.heap.size + 1 ≤ w0.heap.size := by simp [hw0]
  have hB0 : Below w.heap.size w w0 := by
    rw [hw0]
    repeat (with_reducible first | exact Below.refl _ _ | assumption | refine Below.drew ?_ | refine bl_drewN ?_ _ | refine Below.setCell ?_ (by first | omega | (simp; done) | (simp; omega)) _ | refine Below.alloc ?_ (by first | omega | (simp; done) | (simp; omega)) _ | refine bl_next ?_ (by assumption) | refine bl_trans ?_ (by assumption) (by first | omega | (simp; done) | (simp; omega)))
  clear hw0
  go_region_held3 (fun w' => w'.cell? ⟨w.heap.size, 0, none⟩ = some (.float .f64 X1) ∧ w'.cell? ⟨w.heap.size, 1, none⟩ = some (.float .f64 X2)) (((try dsimp only); (try go_split_ands); (repeat' apply And.intro) <;> first | (with_reducible assumption) | (rw []; (with_reducible assumption)) | (with_reducible refine bkeep2 hb ?_; first | (with_reducible assumption) | (simp [*]; done)) | go_keep)) (first | (go_at_call 63; with_reducible refine (u1 _).mono ?_; rintro e w' ⟨rfl, hb⟩) | (go_at_call 63; with_reducible refine (u2 _).mono ?_; rintro e w' ⟨rfl, hb⟩))
  all_goals (go_wp2_with fail; go_ret; refine ⟨rfl, ?_⟩; repeat (with_reducible first | exact Below.refl _ _ | assumption | refine Below.drew ?_ | refine bl_drewN ?_ _ | refine Below.setCell ?_ (by first | omega | (simp; done) | (simp; omega)) _ | refine Below.alloc ?_ (by first | omega | (simp; done) | (simp; omega)) _ | refine bl_next ?_ (by assumption) | refine bl_trans ?_ (by assumption) (by first | omega | (simp; done) | (simp; omega))))

end Go.Proofs.Ytacnclofbnafiab
