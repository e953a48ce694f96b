import Derived.Test.YtacnclofbnafiabGreatDoorB1
import Derived.Laws.Cover3
namespace Go.Proofs.YtacnclofbnafiabGreatDoor
open Go.RowKit Fl

@[go_sem] theorem buildDisc (a b r : Nat) (w : World) : (Instr.build 42 #[(0, .complex .f64 a b), (1, .float .f64 r)]).run Tryz.prog w = .ok (.agg #[.complex .f64 a b, .float .f64 r]) w := run_build w 42 _ _ (by kernel_rfl)
@[go_sem] theorem buildDiscR (r : Nat) (w : World) : (Instr.build 42 #[(1, .float .f64 r)]).run Tryz.prog w = .ok (.agg #[.complex .f64 0 0, .float .f64 r]) w := run_build w 42 _ _ (by kernel_rfl)
set_option maxHeartbeats 1000000 in
theorem addUp_w (a b d u : Nat)
    (h : ∀ w, Calls Tryz.prog 147 #[.float .f64 a, .float .f64 b] w fun e w' => e = .returned (.tuple #[.float .f64 d, .float .f64 u]) ∧ Below w.heap.size w w') (w : World) :
    Calls Tryz.prog 152 #[.float .f64 a, .float .f64 b] w fun e w' => e = .returned (.float .f64 u) ∧ Below w.heap.size w w' := by
  go_enter Tryz.func152, Tryz.ntmps152
  go_wp2_with fail
  go_at_call 147
  refine (h _).mono ?_
  rintro e w1 ⟨rfl, hb1⟩
  have s1 := hb1.size
  try simp at s1
  go_wp2_with fail
  go_ret
  refine ⟨rfl, ?_⟩
  repeat (with_reducible first | exact Below.refl _ _ | assumption | refine Below.drew ?_ | refine bl_drewN ?_ _ | refine Below.setCell ?_ (by first | omega | (simp; done) | (simp; omega)) _ | refine Below.alloc ?_ (by first | omega | (simp; done) | (simp; omega)) _ | refine bl_next ?_ (by assumption) | refine bl_trans ?_ (by assumption) (by first | omega | (simp; done) | (simp; omega)))

set_option maxHeartbeats 1000000 in
theorem mulUp_w (a b d u : Nat)
    (h : ∀ w, Calls Tryz.prog 163 #[.float .f64 a, .float .f64 b] w fun e w' => e = .returned (.tuple #[.float .f64 d, .float .f64 u]) ∧ Below w.heap.size w w') (w : World) :
    Calls Tryz.prog 155 #[.float .f64 a, .float .f64 b] w fun e w' => e = .returned (.float .f64 u) ∧ Below w.heap.size w w' := by
  go_enter Tryz.func155, Tryz.ntmps155
  go_wp2_with fail
  go_at_call 163
  refine (h _).mono ?_
  rintro e w1 ⟨rfl, hb1⟩
  have s1 := hb1.size
  try simp at s1
  go_wp2_with fail
  go_ret
  refine ⟨rfl, ?_⟩
  repeat (with_reducible first | exact Below.refl _ _ | assumption | refine Below.drew ?_ | refine bl_drewN ?_ _ | refine Below.setCell ?_ (by first | omega | (simp; done) | (simp; omega)) _ | refine Below.alloc ?_ (by first | omega | (simp; done) | (simp; omega)) _ | refine bl_next ?_ (by assumption) | refine bl_trans ?_ (by assumption) (by first | omega | (simp; done) | (simp; omega)))

set_option maxHeartbeats 1000000 in
theorem sqrtUp_w (a d u : Nat)
    (h : ∀ w, Calls Tryz.prog 172 #[.float .f64 a] w fun e w' => e = .returned (.tuple #[.float .f64 d, .float .f64 u]) ∧ Below w.heap.size w w') (w : World) :
    Calls Tryz.prog 164 #[.float .f64 a] w fun e w' => e = .returned (.float .f64 u) ∧ Below w.heap.size w w' := by
  go_enter Tryz.func164, Tryz.ntmps164
  go_wp2_with fail
  go_at_call 172
  refine (h _).mono ?_
  rintro e w1 ⟨rfl, hb1⟩
  have s1 := hb1.size
  try simp at s1
  go_wp2_with fail
  go_ret
  refine ⟨rfl, ?_⟩
  repeat (with_reducible first | exact Below.refl _ _ | assumption | refine Below.drew ?_ | refine bl_drewN ?_ _ | refine Below.setCell ?_ (by first | omega | (simp; done) | (simp; omega)) _ | refine Below.alloc ?_ (by first | omega | (simp; done) | (simp; omega)) _ | refine bl_next ?_ (by assumption) | refine bl_trans ?_ (by assumption) (by first | omega | (simp; done) | (simp; omega)))

set_option maxHeartbeats 1000000 in
theorem length_0_w (a b x y l : Nat)
    (ha : ∀ w, Calls Tryz.prog 44 #[.float .f64 a] w fun e w' => e = .returned (.float .f64 x) ∧ w' = w)
    (hb : ∀ w, Calls Tryz.prog 44 #[.float .f64 b] w fun e w' => e = .returned (.float .f64 y) ∧ w' = w)
    (h0 : (Ieee.double.order x 0 == some .eq) = true)
    (hs : Ieee.double.add x y = some l) (w : World) :
    Calls Tryz.prog 153 #[.float .f64 a, .float .f64 b] w fun e w' => e = .returned (.float .f64 l) ∧ Below w.heap.size w w' := by
  have ad := fun t' w => run_float_arith (P := Tryz.prog) w .add t' .f64 _ _ _ hs
  clear hs
  go_enter Tryz.func153, Tryz.ntmps153
  go_wp2_with fail
  go_at_call 44
  refine (ha _).mono ?_
  rintro e w' ⟨rfl, rfl⟩
  go_wp2_with fail
  go_at_call 44
  refine (hb _).mono ?_
  rintro e w' ⟨rfl, rfl⟩
  go_wp2_with fail
  go_ret
  refine ⟨rfl, ?_⟩
  repeat (with_reducible first | exact Below.refl _ _ | assumption | refine Below.drew ?_ | refine bl_drewN ?_ _ | refine Below.setCell ?_ (by first | omega | (simp; done) | (simp; omega)) _ | refine Below.alloc ?_ (by first | omega | (simp; done) | (simp; omega)) _ | refine bl_next ?_ (by assumption) | refine bl_trans ?_ (by assumption) (by first | omega | (simp; done) | (simp; omega)))

set_option maxHeartbeats 1000000 in
theorem length_1_w (a b x y l : Nat)
    (ha : ∀ w, Calls Tryz.prog 44 #[.float .f64 a] w fun e w' => e = .returned (.float .f64 x) ∧ w' = w)
    (hb : ∀ w, Calls Tryz.prog 44 #[.float .f64 b] w fun e w' => e = .returned (.float .f64 y) ∧ w' = w)
    (h0 : (Ieee.double.order x 0 == some .eq) = false)
    (h1 : (Ieee.double.order y 0 == some .eq) = true)
    (hs : Ieee.double.add x y = some l) (w : World) :
    Calls Tryz.prog 153 #[.float .f64 a, .float .f64 b] w fun e w' => e = .returned (.float .f64 l) ∧ Below w.heap.size w w' := by
  have ad := fun t' w => run_float_arith (P := Tryz.prog) w .add t' .f64 _ _ _ hs
  clear hs
  go_enter Tryz.func153, Tryz.ntmps153
  go_wp2_with fail
  go_at_call 44
  refine (ha _).mono ?_
  rintro e w' ⟨rfl, rfl⟩
  go_wp2_with fail
  go_at_call 44
  refine (hb _).mono ?_
  rintro e w' ⟨rfl, rfl⟩
  go_wp2_with fail
  go_ret
  refine ⟨rfl, ?_⟩
  repeat (with_reducible first | exact Below.refl _ _ | assumption | refine Below.drew ?_ | refine bl_drewN ?_ _ | refine Below.setCell ?_ (by first | omega | (simp; done) | (simp; omega)) _ | refine Below.alloc ?_ (by first | omega | (simp; done) | (simp; omega)) _ | refine bl_next ?_ (by assumption) | refine bl_trans ?_ (by assumption) (by first | omega | (simp; done) | (simp; omega)))

set_option maxHeartbeats 1000000 in
theorem length_m_w (a b x y z x1 y1 x2 y2 t r l : Nat)
    (ha : ∀ w, Calls Tryz.prog 44 #[.float .f64 a] w fun e w' => e = .returned (.float .f64 x) ∧ w' = w)
    (hb : ∀ w, Calls Tryz.prog 44 #[.float .f64 b] w fun e w' => e = .returned (.float .f64 y) ∧ w' = w)
    (h0 : (Ieee.double.order x 0 == some .eq) = false)
    (h1 : (Ieee.double.order y 0 == some .eq) = false)
    (hm : ∀ ts t w, (Builtin.max_ ts t #[.float .f64 x, .float .f64 y]).run Tryz.prog w = .ok (.float .f64 z) w)
    (h2 : (Ieee.double.order z 6858982232485265408 == some .gt) = false)
    (h3 : (Ieee.double.order z 2805742567851819008 == some .lt) = false)
    (hq : Ieee.double.div 4607182418800017408 4607182418800017408 = some 4607182418800017408)
    (m1 : ∀ w, Calls Tryz.prog 155 #[.float .f64 x, .float .f64 4607182418800017408] w fun e w' => e = .returned (.float .f64 x1) ∧ Below w.heap.size w w')
    (m2 : ∀ w, Calls Tryz.prog 155 #[.float .f64 y, .float .f64 4607182418800017408] w fun e w' => e = .returned (.float .f64 y1) ∧ Below w.heap.size w w')
    (m3 : ∀ w, Calls Tryz.prog 155 #[.float .f64 x1, .float .f64 x1] w fun e w' => e = .returned (.float .f64 x2) ∧ Below w.heap.size w w')
    (m4 : ∀ w, Calls Tryz.prog 155 #[.float .f64 y1, .float .f64 y1] w fun e w' => e = .returned (.float .f64 y2) ∧ Below w.heap.size w w')
    (m5 : ∀ w, Calls Tryz.prog 152 #[.float .f64 x2, .float .f64 y2] w fun e w' => e = .returned (.float .f64 t) ∧ Below w.heap.size w w')
    (m6 : ∀ w, Calls Tryz.prog 164 #[.float .f64 t] w fun e w' => e = .returned (.float .f64 r) ∧ Below w.heap.size w w')
    (m7 : ∀ w, Calls Tryz.prog 155 #[.float .f64 r, .float .f64 4607182418800017408] w fun e w' => e = .returned (.float .f64 l) ∧ Below w.heap.size w w') (w : World) :
    Calls Tryz.prog 153 #[.float .f64 a, .float .f64 b] w fun e w' => e = .returned (.float .f64 l) ∧ Below w.heap.size w w' := by
  have qd := fun t' w => run_float_arith (P := Tryz.prog) w .quo t' .f64 _ _ _ hq
  clear hq
  go_enter Tryz.func153, Tryz.ntmps153
  go_wp2_with fail
  go_at_call 44
  refine (ha _).mono ?_
  rintro e w' ⟨rfl, rfl⟩
  go_wp2_with fail
  go_at_call 44
  refine (hb _).mono ?_
  rintro e w' ⟨rfl, rfl⟩
  go_wp2_with fail
  go_at_call 155
  refine (m1 _).mono ?_
  rintro e w1 ⟨rfl, hb1⟩
  have s1 := hb1.size
  try simp at s1
  go_wp2_with fail
  go_at_call 155
  refine (m2 _).mono ?_
  rintro e w2 ⟨rfl, hb2⟩
  have s2 := hb2.size
  try simp at s2
  go_wp2_with fail
  go_at_call 155
  refine (m3 _).mono ?_
  rintro e w3 ⟨rfl, hb3⟩
  have s3 := hb3.size
  try simp at s3
  go_wp2_with fail
  go_at_call 155
  refine (m4 _).mono ?_
  rintro e w4 ⟨rfl, hb4⟩
  have s4 := hb4.size
  try simp at s4
  go_wp2_with fail
  go_at_call 152
  refine (m5 _).mono ?_
  rintro e w5 ⟨rfl, hb5⟩
  have s5 := hb5.size
  try simp at s5
  go_wp2_with fail
  go_at_call 164
  refine (m6 _).mono ?_
  rintro e w6 ⟨rfl, hb6⟩
  have s6 := hb6.size
  try simp at s6
  go_wp2_with fail
  go_at_call 155
  refine (m7 _).mono ?_
  rintro e w7 ⟨rfl, hb7⟩
  have s7 := hb7.size
  try simp at s7
  go_wp2_with fail
  go_ret
  refine ⟨rfl, ?_⟩
  repeat (with_reducible first | exact Below.refl _ _ | assumption | refine Below.drew ?_ | refine bl_drewN ?_ _ | refine Below.setCell ?_ (by first | omega | (simp; done) | (simp; omega)) _ | refine Below.alloc ?_ (by first | omega | (simp; done) | (simp; omega)) _ | refine bl_next ?_ (by assumption) | refine bl_trans ?_ (by assumption) (by first | omega | (simp; done) | (simp; omega)))

set_option maxHeartbeats 1000000 in
theorem length_g_w (a b x y z x1 y1 x2 y2 t r l : Nat)
    (ha : ∀ w, Calls Tryz.prog 44 #[.float .f64 a] w fun e w' => e = .returned (.float .f64 x) ∧ w' = w)
    (hb : ∀ w, Calls Tryz.prog 44 #[.float .f64 b] w fun e w' => e = .returned (.float .f64 y) ∧ w' = w)
    (h0 : (Ieee.double.order x 0 == some .eq) = false)
    (h1 : (Ieee.double.order y 0 == some .eq) = false)
    (hm : ∀ ts t w, (Builtin.max_ ts t #[.float .f64 x, .float .f64 y]).run Tryz.prog w = .ok (.float .f64 z) w)
    (h2 : (Ieee.double.order z 6858982232485265408 == some .gt) = true)
    (hq : Ieee.double.div 4607182418800017408 1905022642377719808 = some 7309342195222315008)
    (m1 : ∀ w, Calls Tryz.prog 155 #[.float .f64 x, .float .f64 1905022642377719808] w fun e w' => e = .returned (.float .f64 x1) ∧ Below w.heap.size w w')
    (m2 : ∀ w, Calls Tryz.prog 155 #[.float .f64 y, .float .f64 1905022642377719808] w fun e w' => e = .returned (.float .f64 y1) ∧ Below w.heap.size w w')
    (m3 : ∀ w, Calls Tryz.prog 155 #[.float .f64 x1, .float .f64 x1] w fun e w' => e = .returned (.float .f64 x2) ∧ Below w.heap.size w w')
    (m4 : ∀ w, Calls Tryz.prog 155 #[.float .f64 y1, .float .f64 y1] w fun e w' => e = .returned (.float .f64 y2) ∧ Below w.heap.size w w')
    (m5 : ∀ w, Calls Tryz.prog 152 #[.float .f64 x2, .float .f64 y2] w fun e w' => e = .returned (.float .f64 t) ∧ Below w.heap.size w w')
    (m6 : ∀ w, Calls Tryz.prog 164 #[.float .f64 t] w fun e w' => e = .returned (.float .f64 r) ∧ Below w.heap.size w w')
    (m7 : ∀ w, Calls Tryz.prog 155 #[.float .f64 r, .float .f64 7309342195222315008] w fun e w' => e = .returned (.float .f64 l) ∧ Below w.heap.size w w') (w : World) :
    Calls Tryz.prog 153 #[.float .f64 a, .float .f64 b] w fun e w' => e = .returned (.float .f64 l) ∧ Below w.heap.size w w' := by
  have qd := fun t' w => run_float_arith (P := Tryz.prog) w .quo t' .f64 _ _ _ hq
  clear hq
  go_enter Tryz.func153, Tryz.ntmps153
  go_wp2_with fail
  go_at_call 44
  refine (ha _).mono ?_
  rintro e w' ⟨rfl, rfl⟩
  go_wp2_with fail
  go_at_call 44
  refine (hb _).mono ?_
  rintro e w' ⟨rfl, rfl⟩
  go_wp2_with fail
  go_at_call 155
  refine (m1 _).mono ?_
  rintro e w1 ⟨rfl, hb1⟩
  have s1 := hb1.size
  try simp at s1
  go_wp2_with fail
  go_at_call 155
  refine (m2 _).mono ?_
  rintro e w2 ⟨rfl, hb2⟩
  have s2 := hb2.size
  try simp at s2
  go_wp2_with fail
  go_at_call 155
  refine (m3 _).mono ?_
  rintro e w3 ⟨rfl, hb3⟩
  have s3 := hb3.size
  try simp at s3
  go_wp2_with fail
  go_at_call 155
  refine (m4 _).mono ?_
  rintro e w4 ⟨rfl, hb4⟩
  have s4 := hb4.size
  try simp at s4
  go_wp2_with fail
  go_at_call 152
  refine (m5 _).mono ?_
  rintro e w5 ⟨rfl, hb5⟩
  have s5 := hb5.size
  try simp at s5
  go_wp2_with fail
  go_at_call 164
  refine (m6 _).mono ?_
  rintro e w6 ⟨rfl, hb6⟩
  have s6 := hb6.size
  try simp at s6
  go_wp2_with fail
  go_at_call 155
  refine (m7 _).mono ?_
  rintro e w7 ⟨rfl, hb7⟩
  have s7 := hb7.size
  try simp at s7
  go_wp2_with fail
  go_ret
  refine ⟨rfl, ?_⟩
  repeat (with_reducible first | exact Below.refl _ _ | assumption | refine Below.drew ?_ | refine bl_drewN ?_ _ | refine Below.setCell ?_ (by first | omega | (simp; done) | (simp; omega)) _ | refine Below.alloc ?_ (by first | omega | (simp; done) | (simp; omega)) _ | refine bl_next ?_ (by assumption) | refine bl_trans ?_ (by assumption) (by first | omega | (simp; done) | (simp; omega)))

set_option maxHeartbeats 1000000 in
theorem length_s_w (a b x y z x1 y1 x2 y2 t r l : Nat)
    (ha : ∀ w, Calls Tryz.prog 44 #[.float .f64 a] w fun e w' => e = .returned (.float .f64 x) ∧ w' = w)
    (hb : ∀ w, Calls Tryz.prog 44 #[.float .f64 b] w fun e w' => e = .returned (.float .f64 y) ∧ w' = w)
    (h0 : (Ieee.double.order x 0 == some .eq) = false)
    (h1 : (Ieee.double.order y 0 == some .eq) = false)
    (hm : ∀ ts t w, (Builtin.max_ ts t #[.float .f64 x, .float .f64 y]).run Tryz.prog w = .ok (.float .f64 z) w)
    (h2 : (Ieee.double.order z 6858982232485265408 == some .gt) = false)
    (h3 : (Ieee.double.order z 2805742567851819008 == some .lt) = true)
    (hq : Ieee.double.div 4607182418800017408 7309342195222315008 = some 1905022642377719808)
    (m1 : ∀ w, Calls Tryz.prog 155 #[.float .f64 x, .float .f64 7309342195222315008] w fun e w' => e = .returned (.float .f64 x1) ∧ Below w.heap.size w w')
    (m2 : ∀ w, Calls Tryz.prog 155 #[.float .f64 y, .float .f64 7309342195222315008] w fun e w' => e = .returned (.float .f64 y1) ∧ Below w.heap.size w w')
    (m3 : ∀ w, Calls Tryz.prog 155 #[.float .f64 x1, .float .f64 x1] w fun e w' => e = .returned (.float .f64 x2) ∧ Below w.heap.size w w')
    (m4 : ∀ w, Calls Tryz.prog 155 #[.float .f64 y1, .float .f64 y1] w fun e w' => e = .returned (.float .f64 y2) ∧ Below w.heap.size w w')
    (m5 : ∀ w, Calls Tryz.prog 152 #[.float .f64 x2, .float .f64 y2] w fun e w' => e = .returned (.float .f64 t) ∧ Below w.heap.size w w')
    (m6 : ∀ w, Calls Tryz.prog 164 #[.float .f64 t] w fun e w' => e = .returned (.float .f64 r) ∧ Below w.heap.size w w')
    (m7 : ∀ w, Calls Tryz.prog 155 #[.float .f64 r, .float .f64 1905022642377719808] w fun e w' => e = .returned (.float .f64 l) ∧ Below w.heap.size w w') (w : World) :
    Calls Tryz.prog 153 #[.float .f64 a, .float .f64 b] w fun e w' => e = .returned (.float .f64 l) ∧ Below w.heap.size w w' := by
  have qd := fun t' w => run_float_arith (P := Tryz.prog) w .quo t' .f64 _ _ _ hq
  clear hq
  go_enter Tryz.func153, Tryz.ntmps153
  go_wp2_with fail
  go_at_call 44
  refine (ha _).mono ?_
  rintro e w' ⟨rfl, rfl⟩
  go_wp2_with fail
  go_at_call 44
  refine (hb _).mono ?_
  rintro e w' ⟨rfl, rfl⟩
  go_wp2_with fail
  go_at_call 155
  refine (m1 _).mono ?_
  rintro e w1 ⟨rfl, hb1⟩
  have s1 := hb1.size
  try simp at s1
  go_wp2_with fail
  go_at_call 155
  refine (m2 _).mono ?_
  rintro e w2 ⟨rfl, hb2⟩
  have s2 := hb2.size
  try simp at s2
  go_wp2_with fail
  go_at_call 155
  refine (m3 _).mono ?_
  rintro e w3 ⟨rfl, hb3⟩
  have s3 := hb3.size
  try simp at s3
  go_wp2_with fail
  go_at_call 155
  refine (m4 _).mono ?_
  rintro e w4 ⟨rfl, hb4⟩
  have s4 := hb4.size
  try simp at s4
  go_wp2_with fail
  go_at_call 152
  refine (m5 _).mono ?_
  rintro e w5 ⟨rfl, hb5⟩
  have s5 := hb5.size
  try simp at s5
  go_wp2_with fail
  go_at_call 164
  refine (m6 _).mono ?_
  rintro e w6 ⟨rfl, hb6⟩
  have s6 := hb6.size
  try simp at s6
  go_wp2_with fail
  go_at_call 155
  refine (m7 _).mono ?_
  rintro e w7 ⟨rfl, hb7⟩
  have s7 := hb7.size
  try simp at s7
  go_wp2_with fail
  go_ret
  refine ⟨rfl, ?_⟩
  repeat (with_reducible first | exact Below.refl _ _ | assumption | refine Below.drew ?_ | refine bl_drewN ?_ _ | refine Below.setCell ?_ (by first | omega | (simp; done) | (simp; omega)) _ | refine Below.alloc ?_ (by first | omega | (simp; done) | (simp; omega)) _ | refine bl_next ?_ (by assumption) | refine bl_trans ?_ (by assumption) (by first | omega | (simp; done) | (simp; omega)))

set_option maxHeartbeats 1000000 in
theorem isNumber_nan_w (v : Nat)
    (n : ∀ w, Calls Tryz.prog 159 #[.float .f64 v] w fun e w' => e = .returned (.bool true) ∧ w' = w) (w : World) :
    Calls Tryz.prog 144 #[.float .f64 v] w fun e w' => e = .returned (.bool false) ∧ Below w.heap.size w w' := by
  go_enter Tryz.func144, Tryz.ntmps144
  go_wp2_with fail
  go_at_call 159
  refine (n _).mono ?_
  rintro e w' ⟨rfl, rfl⟩
  go_wp2_with fail
  go_ret
  refine ⟨rfl, ?_⟩
  repeat (with_reducible first | exact Below.refl _ _ | assumption | refine Below.drew ?_ | refine bl_drewN ?_ _ | refine Below.setCell ?_ (by first | omega | (simp; done) | (simp; omega)) _ | refine Below.alloc ?_ (by first | omega | (simp; done) | (simp; omega)) _ | refine bl_next ?_ (by assumption) | refine bl_trans ?_ (by assumption) (by first | omega | (simp; done) | (simp; omega)))

set_option maxHeartbeats 1000000 in
theorem isNumber_inf_w (v : Nat)
    (n : ∀ w, Calls Tryz.prog 159 #[.float .f64 v] w fun e w' => e = .returned (.bool false) ∧ w' = w)
    (i : ∀ w, Calls Tryz.prog 60 #[.float .f64 v, .int .i64 0] w fun e w' => e = .returned (.bool true) ∧ w' = w) (w : World) :
    Calls Tryz.prog 144 #[.float .f64 v] w fun e w' => e = .returned (.bool false) ∧ Below w.heap.size w w' := by
  go_enter Tryz.func144, Tryz.ntmps144
  go_wp2_with fail
  go_at_call 159
  refine (n _).mono ?_
  rintro e w' ⟨rfl, rfl⟩
  go_wp2_with fail
  go_at_call 60
  refine (i _).mono ?_
  rintro e w' ⟨rfl, rfl⟩
  go_wp2_with fail
  go_ret
  refine ⟨rfl, ?_⟩
  repeat (with_reducible first | exact Below.refl _ _ | assumption | refine Below.drew ?_ | refine bl_drewN ?_ _ | refine Below.setCell ?_ (by first | omega | (simp; done) | (simp; omega)) _ | refine Below.alloc ?_ (by first | omega | (simp; done) | (simp; omega)) _ | refine bl_next ?_ (by assumption) | refine bl_trans ?_ (by assumption) (by first | omega | (simp; done) | (simp; omega)))

set_option maxHeartbeats 1000000 in
theorem isNumber_ok_w (v : Nat)
    (n : ∀ w, Calls Tryz.prog 159 #[.float .f64 v] w fun e w' => e = .returned (.bool false) ∧ w' = w)
    (i : ∀ w, Calls Tryz.prog 60 #[.float .f64 v, .int .i64 0] w fun e w' => e = .returned (.bool false) ∧ w' = w) (w : World) :
    Calls Tryz.prog 144 #[.float .f64 v] w fun e w' => e = .returned (.bool true) ∧ Below w.heap.size w w' := by
  go_enter Tryz.func144, Tryz.ntmps144
  go_wp2_with fail
  go_at_call 159
  refine (n _).mono ?_
  rintro e w' ⟨rfl, rfl⟩
  go_wp2_with fail
  go_at_call 60
  refine (i _).mono ?_
  rintro e w' ⟨rfl, rfl⟩
  go_wp2_with fail
  go_ret
  refine ⟨rfl, ?_⟩
  repeat (with_reducible first | exact Below.refl _ _ | assumption | refine Below.drew ?_ | refine bl_drewN ?_ _ | refine Below.setCell ?_ (by first | omega | (simp; done) | (simp; omega)) _ | refine Below.alloc ?_ (by first | omega | (simp; done) | (simp; omega)) _ | refine bl_next ?_ (by assumption) | refine bl_trans ?_ (by assumption) (by first | omega | (simp; done) | (simp; omega)))

set_option maxHeartbeats 1000000 in
theorem endless_1_w (X1 X2 : Nat)
    (i : ∀ w, Calls Tryz.prog 60 #[.float .f64 X1, .int .i64 0] w fun e w' => e = .returned (.bool true) ∧ w' = w) (w : World) :
    Calls Tryz.prog 150 #[.agg #[.float .f64 X1, .float .f64 X2]] w fun e w' => e = .returned (.bool true) ∧ Below w.heap.size w w' := by
  go_enter Tryz.func150, Tryz.ntmps150
  go_wp2_with fail
  obtain ⟨w0, hw0⟩ : ∃ v, v = (w.alloc (.cells #[.float .f64 X1, .float .f64 X2] 37)) := ⟨_, rfl⟩
  rw [← hw0]
  have c00 : w0.cell? ⟨w.heap.size, 0, none⟩ = some (.float .f64 X1) := by simp [hw0, go_sem]
  have c01 : w0.cell? ⟨w.heap.size, 1, none⟩ = some (.float .f64 X2) := by simp [hw0, go_sem]
  have s0 : w.heap.size + 1 ≤ w0.heap.size := by simp [hw0]
  have hB0 : Below w.heap.size w w0 := by
    rw [hw0]
    repeat (with_reducible first | exact Below.refl _ _ | assumption | refine Below.drew ?_ | refine bl_drewN ?_ _ | refine Below.setCell ?_ (by first | omega | (simp; done) | (simp; omega)) _ | refine Below.alloc ?_ (by first | omega | (simp; done) | (simp; omega)) _ | refine bl_next ?_ (by assumption) | refine bl_trans ?_ (by assumption) (by first | omega | (simp; done) | (simp; omega)))
  clear hw0
  go_at_call 60
  refine (i _).mono ?_
  rintro e w' ⟨rfl, rfl⟩
  go_wp2_with fail
  go_ret
  refine ⟨rfl, ?_⟩
  repeat (with_reducible first | exact Below.refl _ _ | assumption | refine Below.drew ?_ | refine bl_drewN ?_ _ | refine Below.setCell ?_ (by first | omega | (simp; done) | (simp; omega)) _ | refine Below.alloc ?_ (by first | omega | (simp; done) | (simp; omega)) _ | refine bl_next ?_ (by assumption) | refine bl_trans ?_ (by assumption) (by first | omega | (simp; done) | (simp; omega)))

set_option maxHeartbeats 1000000 in
theorem endless_t_w (X1 X2 : Nat)
    (i : ∀ w, Calls Tryz.prog 60 #[.float .f64 X1, .int .i64 0] w fun e w' => e = .returned (.bool false) ∧ w' = w)
    (j : ∀ w, Calls Tryz.prog 60 #[.float .f64 X2, .int .i64 0] w fun e w' => e = .returned (.bool true) ∧ w' = w) (w : World) :
    Calls Tryz.prog 150 #[.agg #[.float .f64 X1, .float .f64 X2]] w fun e w' => e = .returned (.bool true) ∧ Below w.heap.size w w' := by
  go_enter Tryz.func150, Tryz.ntmps150
  go_wp2_with fail
  obtain ⟨w0, hw0⟩ : ∃ v, v = (w.alloc (.cells #[.float .f64 X1, .float .f64 X2] 37)) := ⟨_, rfl⟩
  rw [← hw0]
  have c00 : w0.cell? ⟨w.heap.size, 0, none⟩ = some (.float .f64 X1) := by simp [hw0, go_sem]
  have c01 : w0.cell? ⟨w.heap.size, 1, none⟩ = some (.float .f64 X2) := by simp [hw0, go_sem]
  have s0 : w.heap.size + 1 ≤ w0.heap.size := by simp [hw0]
  have hB0 : Below w.heap.size w w0 := by
    rw [hw0]
    repeat (with_reducible first | exact Below.refl _ _ | assumption | refine Below.drew ?_ | refine bl_drewN ?_ _ | refine Below.setCell ?_ (by first | omega | (simp; done) | (simp; omega)) _ | refine Below.alloc ?_ (by first | omega | (simp; done) | (simp; omega)) _ | refine bl_next ?_ (by assumption) | refine bl_trans ?_ (by assumption) (by first | omega | (simp; done) | (simp; omega)))
  clear hw0
  go_at_call 60
  refine (i _).mono ?_
  rintro e w' ⟨rfl, rfl⟩
  go_wp2_with fail
  go_at_call 60
  refine (j _).mono ?_
  rintro e w' ⟨rfl, rfl⟩
  go_wp2_with fail
  go_ret
  refine ⟨rfl, ?_⟩
  repeat (with_reducible first | exact Below.refl _ _ | assumption | refine Below.drew ?_ | refine bl_drewN ?_ _ | refine Below.setCell ?_ (by first | omega | (simp; done) | (simp; omega)) _ | refine Below.alloc ?_ (by first | omega | (simp; done) | (simp; omega)) _ | refine bl_next ?_ (by assumption) | refine bl_trans ?_ (by assumption) (by first | omega | (simp; done) | (simp; omega)))

set_option maxHeartbeats 1000000 in
theorem endless_f_w (X1 X2 : Nat)
    (i : ∀ w, Calls Tryz.prog 60 #[.float .f64 X1, .int .i64 0] w fun e w' => e = .returned (.bool false) ∧ w' = w)
    (j : ∀ w, Calls Tryz.prog 60 #[.float .f64 X2, .int .i64 0] w fun e w' => e = .returned (.bool false) ∧ w' = w) (w : World) :
    Calls Tryz.prog 150 #[.agg #[.float .f64 X1, .float .f64 X2]] w fun e w' => e = .returned (.bool false) ∧ Below w.heap.size w w' := by
  go_enter Tryz.func150, Tryz.ntmps150
  go_wp2_with fail
  obtain ⟨w0, hw0⟩ : ∃ v, v = (w.alloc (.cells #[.float .f64 X1, .float .f64 X2] 37)) := ⟨_, rfl⟩
  rw [← hw0]
  have c00 : w0.cell? ⟨w.heap.size, 0, none⟩ = some (.float .f64 X1) := by simp [hw0, go_sem]
  have c01 : w0.cell? ⟨w.heap.size, 1, none⟩ = some (.float .f64 X2) := by simp [hw0, go_sem]
  have s0 : w.heap.size + 1 ≤ w0.heap.size := by simp [hw0]
  have hB0 : Below w.heap.size w w0 := by
    rw [hw0]
    repeat (with_reducible first | exact Below.refl _ _ | assumption | refine Below.drew ?_ | refine bl_drewN ?_ _ | refine Below.setCell ?_ (by first | omega | (simp; done) | (simp; omega)) _ | refine Below.alloc ?_ (by first | omega | (simp; done) | (simp; omega)) _ | refine bl_next ?_ (by assumption) | refine bl_trans ?_ (by assumption) (by first | omega | (simp; done) | (simp; omega)))
  clear hw0
  go_at_call 60
  refine (i _).mono ?_
  rintro e w' ⟨rfl, rfl⟩
  go_wp2_with fail
  go_at_call 60
  refine (j _).mono ?_
  rintro e w' ⟨rfl, rfl⟩
  go_wp2_with fail
  go_ret
  refine ⟨rfl, ?_⟩
  repeat (with_reducible first | exact Below.refl _ _ | assumption | refine Below.drew ?_ | refine bl_drewN ?_ _ | refine Below.setCell ?_ (by first | omega | (simp; done) | (simp; omega)) _ | refine Below.alloc ?_ (by first | omega | (simp; done) | (simp; omega)) _ | refine bl_next ?_ (by assumption) | refine bl_trans ?_ (by assumption) (by first | omega | (simp; done) | (simp; omega)))

set_option maxHeartbeats 1000000 in
theorem hasAll_t_w (a b r : Nat)
    (i : ∀ w, Calls Tryz.prog 60 #[.float .f64 r, .int .i64 1] w fun e w' => e = .returned (.bool true) ∧ w' = w) (w : World) :
    Calls Tryz.prog 113 #[.agg #[.complex .f64 a b, .float .f64 r]] w fun e w' => e = .returned (.bool true) ∧ Below w.heap.size w w' := by
  go_enter Tryz.func113, Tryz.ntmps113
  go_wp2_with fail
  obtain ⟨w0, hw0⟩ : ∃ v, v = (w.alloc (.cells #[.complex .f64 a b, .float .f64 r] 42)) := ⟨_, rfl⟩
  rw [← hw0]
  have c00 : w0.cell? ⟨w.heap.size, 0, none⟩ = some (.complex .f64 a b) := by simp [hw0, go_sem]
  have c01 : w0.cell? ⟨w.heap.size, 1, none⟩ = some (.float .f64 r) := by simp [hw0, go_sem]
  have s0 : w.heap.size + 1 ≤ w0.heap.size := by simp [hw0]
  have hB0 : Below w.heap.size w w0 := by
    rw [hw0]
    repeat (with_reducible first | exact Below.refl _ _ | assumption | refine Below.drew ?_ | refine bl_drewN ?_ _ | refine Below.setCell ?_ (by first | omega | (simp; done) | (simp; omega)) _ | refine Below.alloc ?_ (by first | omega | (simp; done) | (simp; omega)) _ | refine bl_next ?_ (by assumption) | refine bl_trans ?_ (by assumption) (by first | omega | (simp; done) | (simp; omega)))
  clear hw0
  go_at_call 60
  refine (i _).mono ?_
  rintro e w' ⟨rfl, rfl⟩
  go_wp2_with fail
  go_ret
  refine ⟨rfl, ?_⟩
  repeat (with_reducible first | exact Below.refl _ _ | assumption | refine Below.drew ?_ | refine bl_drewN ?_ _ | refine Below.setCell ?_ (by first | omega | (simp; done) | (simp; omega)) _ | refine Below.alloc ?_ (by first | omega | (simp; done) | (simp; omega)) _ | refine bl_next ?_ (by assumption) | refine bl_trans ?_ (by assumption) (by first | omega | (simp; done) | (simp; omega)))

set_option maxHeartbeats 1000000 in
theorem hasAll_f_w (a b r : Nat)
    (i : ∀ w, Calls Tryz.prog 60 #[.float .f64 r, .int .i64 1] w fun e w' => e = .returned (.bool false) ∧ w' = w) (w : World) :
    Calls Tryz.prog 113 #[.agg #[.complex .f64 a b, .float .f64 r]] w fun e w' => e = .returned (.bool false) ∧ Below w.heap.size w w' := by
  go_enter Tryz.func113, Tryz.ntmps113
  go_wp2_with fail
  obtain ⟨w0, hw0⟩ : ∃ v, v = (w.alloc (.cells #[.complex .f64 a b, .float .f64 r] 42)) := ⟨_, rfl⟩
  rw [← hw0]
  have c00 : w0.cell? ⟨w.heap.size, 0, none⟩ = some (.complex .f64 a b) := by simp [hw0, go_sem]
  have c01 : w0.cell? ⟨w.heap.size, 1, none⟩ = some (.float .f64 r) := by simp [hw0, go_sem]
  have s0 : w.heap.size + 1 ≤ w0.heap.size := by simp [hw0]
  have hB0 : Below w.heap.size w w0 := by
    rw [hw0]
    repeat (with_reducible first | exact Below.refl _ _ | assumption | refine Below.drew ?_ | refine bl_drewN ?_ _ | refine Below.setCell ?_ (by first | omega | (simp; done) | (simp; omega)) _ | refine Below.alloc ?_ (by first | omega | (simp; done) | (simp; omega)) _ | refine bl_next ?_ (by assumption) | refine bl_trans ?_ (by assumption) (by first | omega | (simp; done) | (simp; omega)))
  clear hw0
  go_at_call 60
  refine (i _).mono ?_
  rintro e w' ⟨rfl, rfl⟩
  go_wp2_with fail
  go_ret
  refine ⟨rfl, ?_⟩
  repeat (with_reducible first | exact Below.refl _ _ | assumption | refine Below.drew ?_ | refine bl_drewN ?_ _ | refine Below.setCell ?_ (by first | omega | (simp; done) | (simp; omega)) _ | refine Below.alloc ?_ (by first | omega | (simp; done) | (simp; omega)) _ | refine bl_next ?_ (by assumption) | refine bl_trans ?_ (by assumption) (by first | omega | (simp; done) | (simp; omega)))

set_option maxHeartbeats 1000000 in
theorem hasNone_lt_w (a b r : Nat)
    (hr : Ieee.double.order r 0 = some .lt) (w : World) :
    Calls Tryz.prog 111 #[.agg #[.complex .f64 a b, .float .f64 r]] w fun e w' => e = .returned (.bool true) ∧ Below w.heap.size w w' := by
  go_enter Tryz.func111, Tryz.ntmps111
  go_wp2_with fail
  obtain ⟨w0, hw0⟩ : ∃ v, v = (w.alloc (.cells #[.complex .f64 a b, .float .f64 r] 42)) := ⟨_, rfl⟩
  rw [← hw0]
  have c00 : w0.cell? ⟨w.heap.size, 0, none⟩ = some (.complex .f64 a b) := by simp [hw0, go_sem]
  have c01 : w0.cell? ⟨w.heap.size, 1, none⟩ = some (.float .f64 r) := by simp [hw0, go_sem]
  have s0 : w.heap.size + 1 ≤ w0.heap.size := by simp [hw0]
  have hB0 : Below w.heap.size w w0 := by
    rw [hw0]
    repeat (with_reducible first | exact Below.refl _ _ | assumption | refine Below.drew ?_ | refine bl_drewN ?_ _ | refine Below.setCell ?_ (by first | omega | (simp; done) | (simp; omega)) _ | refine Below.alloc ?_ (by first | omega | (simp; done) | (simp; omega)) _ | refine bl_next ?_ (by assumption) | refine bl_trans ?_ (by assumption) (by first | omega | (simp; done) | (simp; omega)))
  clear hw0
  go_ret
  refine ⟨rfl, ?_⟩
  repeat (with_reducible first | exact Below.refl _ _ | assumption | refine Below.drew ?_ | refine bl_drewN ?_ _ | refine Below.setCell ?_ (by first | omega | (simp; done) | (simp; omega)) _ | refine Below.alloc ?_ (by first | omega | (simp; done) | (simp; omega)) _ | refine bl_next ?_ (by assumption) | refine bl_trans ?_ (by assumption) (by first | omega | (simp; done) | (simp; omega)))

set_option maxHeartbeats 1000000 in
theorem hasNone_nan_w (a b r : Nat)
    (hr : Ieee.double.order r 0 = none) (w : World) :
    Calls Tryz.prog 111 #[.agg #[.complex .f64 a b, .float .f64 r]] w fun e w' => e = .returned (.bool true) ∧ Below w.heap.size w w' := by
  go_enter Tryz.func111, Tryz.ntmps111
  go_wp2_with fail
  obtain ⟨w0, hw0⟩ : ∃ v, v = (w.alloc (.cells #[.complex .f64 a b, .float .f64 r] 42)) := ⟨_, rfl⟩
  rw [← hw0]
  have c00 : w0.cell? ⟨w.heap.size, 0, none⟩ = some (.complex .f64 a b) := by simp [hw0, go_sem]
  have c01 : w0.cell? ⟨w.heap.size, 1, none⟩ = some (.float .f64 r) := by simp [hw0, go_sem]
  have s0 : w.heap.size + 1 ≤ w0.heap.size := by simp [hw0]
  have hB0 : Below w.heap.size w w0 := by
    rw [hw0]
    repeat (with_reducible first | exact Below.refl _ _ | assumption | refine Below.drew ?_ | refine bl_drewN ?_ _ | refine Below.setCell ?_ (by first | omega | (simp; done) | (simp; omega)) _ | refine Below.alloc ?_ (by first | omega | (simp; done) | (simp; omega)) _ | refine bl_next ?_ (by assumption) | refine bl_trans ?_ (by assumption) (by first | omega | (simp; done) | (simp; omega)))
  clear hw0
  go_ret
  refine ⟨rfl, ?_⟩
  repeat (with_reducible first | exact Below.refl _ _ | assumption | refine Below.drew ?_ | refine bl_drewN ?_ _ | refine Below.setCell ?_ (by first | omega | (simp; done) | (simp; omega)) _ | refine Below.alloc ?_ (by first | omega | (simp; done) | (simp; omega)) _ | refine bl_next ?_ (by assumption) | refine bl_trans ?_ (by assumption) (by first | omega | (simp; done) | (simp; omega)))

set_option maxHeartbeats 1000000 in
theorem hasNone_gt_all_w (a b r : Nat)
    (hr : Ieee.double.order r 0 = some .gt)
    (al : ∀ w, Calls Tryz.prog 113 #[.agg #[.complex .f64 a b, .float .f64 r]] w fun e w' => e = .returned (.bool true) ∧ Below w.heap.size w w') (w : World) :
    Calls Tryz.prog 111 #[.agg #[.complex .f64 a b, .float .f64 r]] w fun e w' => e = .returned (.bool false) ∧ Below w.heap.size w w' := by
  go_enter Tryz.func111, Tryz.ntmps111
  go_wp2_with fail
  obtain ⟨w0, hw0⟩ : ∃ v, v = (w.alloc (.cells #[.complex .f64 a b, .float .f64 r] 42)) := ⟨_, rfl⟩
  rw [← hw0]
  have c00 : w0.cell? ⟨w.heap.size, 0, none⟩ = some (.complex .f64 a b) := by simp [hw0, go_sem]
  have c01 : w0.cell? ⟨w.heap.size, 1, none⟩ = some (.float .f64 r) := by simp [hw0, go_sem]
  have s0 : w.heap.size + 1 ≤ w0.heap.size := by simp [hw0]
  have hB0 : Below w.heap.size w w0 := by
    rw [hw0]
    repeat (with_reducible first | exact Below.refl _ _ | assumption | refine Below.drew ?_ | refine bl_drewN ?_ _ | refine Below.setCell ?_ (by first | omega | (simp; done) | (simp; omega)) _ | refine Below.alloc ?_ (by first | omega | (simp; done) | (simp; omega)) _ | refine bl_next ?_ (by assumption) | refine bl_trans ?_ (by assumption) (by first | omega | (simp; done) | (simp; omega)))
  clear hw0
  go_at_call 113
  refine (al _).mono ?_
  rintro e w1 ⟨rfl, hb1⟩
  have s1 := hb1.size
  try simp at s1
  replace c00 := bkeep2 hb1 c00
  replace c01 := bkeep2 hb1 c01
  have l0 : w.heap.size < w1.heap.size := cell_lt c00
  go_wp2_with fail
  go_ret
  refine ⟨rfl, ?_⟩
  repeat (with_reducible first | exact Below.refl _ _ | assumption | refine Below.drew ?_ | refine bl_drewN ?_ _ | refine Below.setCell ?_ (by first | omega | (simp; done) | (simp; omega)) _ | refine Below.alloc ?_ (by first | omega | (simp; done) | (simp; omega)) _ | refine bl_next ?_ (by assumption) | refine bl_trans ?_ (by assumption) (by first | omega | (simp; done) | (simp; omega)))

set_option maxHeartbeats 1000000 in
theorem hasNone_gt_re_w (a b r : Nat)
    (hr : Ieee.double.order r 0 = some .gt)
    (al : ∀ w, Calls Tryz.prog 113 #[.agg #[.complex .f64 a b, .float .f64 r]] w fun e w' => e = .returned (.bool false) ∧ Below w.heap.size w w')
    (n1 : ∀ w, Calls Tryz.prog 144 #[.float .f64 a] w fun e w' => e = .returned (.bool false) ∧ Below w.heap.size w w') (w : World) :
    Calls Tryz.prog 111 #[.agg #[.complex .f64 a b, .float .f64 r]] w fun e w' => e = .returned (.bool true) ∧ Below w.heap.size w w' := by
  go_enter Tryz.func111, Tryz.ntmps111
  go_wp2_with fail
  obtain ⟨w0, hw0⟩ : ∃ v, v = (w.alloc (.cells #[.complex .f64 a b, .float .f64 r] 42)) := ⟨_, rfl⟩
  rw [← hw0]
  have c00 : w0.cell? ⟨w.heap.size, 0, none⟩ = some (.complex .f64 a b) := by simp [hw0, go_sem]
  have c01 : w0.cell? ⟨w.heap.size, 1, none⟩ = some (.float .f64 r) := by simp [hw0, go_sem]
  have s0 : w.heap.size + 1 ≤ w0.heap.size := by simp [hw0]
  have hB0 : Below w.heap.size w w0 := by
    rw [hw0]
    repeat (with_reducible first | exact Below.refl _ _ | assumption | refine Below.drew ?_ | refine bl_drewN ?_ _ | refine Below.setCell ?_ (by first | omega | (simp; done) | (simp; omega)) _ | refine Below.alloc ?_ (by first | omega | (simp; done) | (simp; omega)) _ | refine bl_next ?_ (by assumption) | refine bl_trans ?_ (by assumption) (by first | omega | (simp; done) | (simp; omega)))
  clear hw0
  go_at_call 113
  refine (al _).mono ?_
  rintro e w1 ⟨rfl, hb1⟩
  have s1 := hb1.size
  try simp at s1
  replace c00 := bkeep2 hb1 c00
  replace c01 := bkeep2 hb1 c01
  have l0 : w.heap.size < w1.heap.size := cell_lt c00
  go_wp2_with fail
  go_at_call 144
  refine (n1 _).mono ?_
  rintro e w2 ⟨rfl, hb2⟩
  have s2 := hb2.size
  try simp at s2
  replace c00 := bkeep2 hb2 c00
  replace c01 := bkeep2 hb2 c01
  have l0 : w.heap.size < w2.heap.size := cell_lt c00
  go_wp2_with fail
  go_ret
  refine ⟨rfl, ?_⟩
  repeat (with_reducible first | exact Below.refl _ _ | assumption | refine Below.drew ?_ | refine bl_drewN ?_ _ | refine Below.setCell ?_ (by first | omega | (simp; done) | (simp; omega)) _ | refine Below.alloc ?_ (by first | omega | (simp; done) | (simp; omega)) _ | refine bl_next ?_ (by assumption) | refine bl_trans ?_ (by assumption) (by first | omega | (simp; done) | (simp; omega)))

set_option maxHeartbeats 1000000 in
theorem hasNone_gt_im_w (a b r : Nat)
    (hr : Ieee.double.order r 0 = some .gt)
    (al : ∀ w, Calls Tryz.prog 113 #[.agg #[.complex .f64 a b, .float .f64 r]] w fun e w' => e = .returned (.bool false) ∧ Below w.heap.size w w')
    (n1 : ∀ w, Calls Tryz.prog 144 #[.float .f64 a] w fun e w' => e = .returned (.bool true) ∧ Below w.heap.size w w')
    (n2 : ∀ w, Calls Tryz.prog 144 #[.float .f64 b] w fun e w' => e = .returned (.bool false) ∧ Below w.heap.size w w') (w : World) :
    Calls Tryz.prog 111 #[.agg #[.complex .f64 a b, .float .f64 r]] w fun e w' => e = .returned (.bool true) ∧ Below w.heap.size w w' := by
  go_enter Tryz.func111, Tryz.ntmps111
  go_wp2_with fail
  obtain ⟨w0, hw0⟩ : ∃ v, v = (w.alloc (.cells #[.complex .f64 a b, .float .f64 r] 42)) := ⟨_, rfl⟩
  rw [← hw0]
  have c00 : w0.cell? ⟨w.heap.size, 0, none⟩ = some (.complex .f64 a b) := by simp [hw0, go_sem]
  have c01 : w0.cell? ⟨w.heap.size, 1, none⟩ = some (.float .f64 r) := by simp [hw0, go_sem]
  have s0 : w.heap.size + 1 ≤ w0.heap.size := by simp [hw0]
  have hB0 : Below w.heap.size w w0 := by
    rw [hw0]
    repeat (with_reducible first | exact Below.refl _ _ | assumption | refine Below.drew ?_ | refine bl_drewN ?_ _ | refine Below.setCell ?_ (by first | omega | (simp; done) | (simp; omega)) _ | refine Below.alloc ?_ (by first | omega | (simp; done) | (simp; omega)) _ | refine bl_next ?_ (by assumption) | refine bl_trans ?_ (by assumption) (by first | omega | (simp; done) | (simp; omega)))
  clear hw0
  go_at_call 113
  refine (al _).mono ?_
  rintro e w1 ⟨rfl, hb1⟩
  have s1 := hb1.size
  try simp at s1
  replace c00 := bkeep2 hb1 c00
  replace c01 := bkeep2 hb1 c01
  have l0 : w.heap.size < w1.heap.size := cell_lt c00
  go_wp2_with fail
  go_at_call 144
  refine (n1 _).mono ?_
  rintro e w2 ⟨rfl, hb2⟩
  have s2 := hb2.size
  try simp at s2
  replace c00 := bkeep2 hb2 c00
  replace c01 := bkeep2 hb2 c01
  have l0 : w.heap.size < w2.heap.size := cell_lt c00
  go_wp2_with fail
  go_at_call 144
  refine (n2 _).mono ?_
  rintro e w3 ⟨rfl, hb3⟩
  have s3 := hb3.size
  try simp at s3
  replace c00 := bkeep2 hb3 c00
  replace c01 := bkeep2 hb3 c01
  have l0 : w.heap.size < w3.heap.size := cell_lt c00
  go_wp2_with fail
  go_ret
  refine ⟨rfl, ?_⟩
  repeat (with_reducible first | exact Below.refl _ _ | assumption | refine Below.drew ?_ | refine bl_drewN ?_ _ | refine Below.setCell ?_ (by first | omega | (simp; done) | (simp; omega)) _ | refine Below.alloc ?_ (by first | omega | (simp; done) | (simp; omega)) _ | refine bl_next ?_ (by assumption) | refine bl_trans ?_ (by assumption) (by first | omega | (simp; done) | (simp; omega)))

set_option maxHeartbeats 1000000 in
theorem hasNone_gt_ok_w (a b r : Nat)
    (hr : Ieee.double.order r 0 = some .gt)
    (al : ∀ w, Calls Tryz.prog 113 #[.agg #[.complex .f64 a b, .float .f64 r]] w fun e w' => e = .returned (.bool false) ∧ Below w.heap.size w w')
    (n1 : ∀ w, Calls Tryz.prog 144 #[.float .f64 a] w fun e w' => e = .returned (.bool true) ∧ Below w.heap.size w w')
    (n2 : ∀ w, Calls Tryz.prog 144 #[.float .f64 b] w fun e w' => e = .returned (.bool true) ∧ Below w.heap.size w w') (w : World) :
    Calls Tryz.prog 111 #[.agg #[.complex .f64 a b, .float .f64 r]] w fun e w' => e = .returned (.bool false) ∧ Below w.heap.size w w' := by
  go_enter Tryz.func111, Tryz.ntmps111
  go_wp2_with fail
  obtain ⟨w0, hw0⟩ : ∃ v, v = (w.alloc (.cells #[.complex .f64 a b, .float .f64 r] 42)) := ⟨_, rfl⟩
  rw [← hw0]
  have c00 : w0.cell? ⟨w.heap.size, 0, none⟩ = some (.complex .f64 a b) := by simp [hw0, go_sem]
  have c01 : w0.cell? ⟨w.heap.size, 1, none⟩ = some (.float .f64 r) := by simp [hw0, go_sem]
  have s0 : w.heap.size + 1 ≤ w0.heap.size := by simp [hw0]
  have hB0 : Below w.heap.size w w0 := by
    rw [hw0]
    repeat (with_reducible first | exact Below.refl _ _ | assumption | refine Below.drew ?_ | refine bl_drewN ?_ _ | refine Below.setCell ?_ (by first | omega | (simp; done) | (simp; omega)) _ | refine Below.alloc ?_ (by first | omega | (simp; done) | (simp; omega)) _ | refine bl_next ?_ (by assumption) | refine bl_trans ?_ (by assumption) (by first | omega | (simp; done) | (simp; omega)))
  clear hw0
  go_at_call 113
  refine (al _).mono ?_
  rintro e w1 ⟨rfl, hb1⟩
  have s1 := hb1.size
  try simp at s1
  replace c00 := bkeep2 hb1 c00
  replace c01 := bkeep2 hb1 c01
  have l0 : w.heap.size < w1.heap.size := cell_lt c00
  go_wp2_with fail
  go_at_call 144
  refine (n1 _).mono ?_
  rintro e w2 ⟨rfl, hb2⟩
  have s2 := hb2.size
  try simp at s2
  replace c00 := bkeep2 hb2 c00
  replace c01 := bkeep2 hb2 c01
  have l0 : w.heap.size < w2.heap.size := cell_lt c00
  go_wp2_with fail
  go_at_call 144
  refine (n2 _).mono ?_
  rintro e w3 ⟨rfl, hb3⟩
  have s3 := hb3.size
  try simp at s3
  replace c00 := bkeep2 hb3 c00
  replace c01 := bkeep2 hb3 c01
  have l0 : w.heap.size < w3.heap.size := cell_lt c00
  go_wp2_with fail
  go_ret
  refine ⟨rfl, ?_⟩
  repeat (with_reducible first | exact Below.refl _ _ | assumption | refine Below.drew ?_ | refine bl_drewN ?_ _ | refine Below.setCell ?_ (by first | omega | (simp; done) | (simp; omega)) _ | refine Below.alloc ?_ (by first | omega | (simp; done) | (simp; omega)) _ | refine bl_next ?_ (by assumption) | refine bl_trans ?_ (by assumption) (by first | omega | (simp; done) | (simp; omega)))

set_option maxHeartbeats 1000000 in
theorem hasNone_eq_re_w (a b r : Nat)
    (hr : Ieee.double.order r 0 = some .eq)
    (al : ∀ w, Calls Tryz.prog 113 #[.agg #[.complex .f64 a b, .float .f64 r]] w fun e w' => e = .returned (.bool false) ∧ Below w.heap.size w w')
    (n1 : ∀ w, Calls Tryz.prog 144 #[.float .f64 a] w fun e w' => e = .returned (.bool false) ∧ Below w.heap.size w w') (w : World) :
    Calls Tryz.prog 111 #[.agg #[.complex .f64 a b, .float .f64 r]] w fun e w' => e = .returned (.bool true) ∧ Below w.heap.size w w' := by
  go_enter Tryz.func111, Tryz.ntmps111
  go_wp2_with fail
  obtain ⟨w0, hw0⟩ : ∃ v, v = (w.alloc (.cells #[.complex .f64 a b, .float .f64 r] 42)) := ⟨_, rfl⟩
  rw [← hw0]
  have c00 : w0.cell? ⟨w.heap.size, 0, none⟩ = some (.complex .f64 a b) := by simp [hw0, go_sem]
  have c01 : w0.cell? ⟨w.heap.size, 1, none⟩ = some (.float .f64 r) := by simp [hw0, go_sem]
  have s0 : w.heap.size + 1 ≤ w0.heap.size := by simp [hw0]
  have hB0 : Below w.heap.size w w0 := by
    rw [hw0]
    repeat (with_reducible first | exact Below.refl _ _ | assumption | refine Below.drew ?_ | refine bl_drewN ?_ _ | refine Below.setCell ?_ (by first | omega | (simp; done) | (simp; omega)) _ | refine Below.alloc ?_ (by first | omega | (simp; done) | (simp; omega)) _ | refine bl_next ?_ (by assumption) | refine bl_trans ?_ (by assumption) (by first | omega | (simp; done) | (simp; omega)))
  clear hw0
  go_at_call 113
  refine (al _).mono ?_
  rintro e w1 ⟨rfl, hb1⟩
  have s1 := hb1.size
  try simp at s1
  replace c00 := bkeep2 hb1 c00
  replace c01 := bkeep2 hb1 c01
  have l0 : w.heap.size < w1.heap.size := cell_lt c00
  go_wp2_with fail
  go_at_call 144
  refine (n1 _).mono ?_
  rintro e w2 ⟨rfl, hb2⟩
  have s2 := hb2.size
  try simp at s2
  replace c00 := bkeep2 hb2 c00
  replace c01 := bkeep2 hb2 c01
  have l0 : w.heap.size < w2.heap.size := cell_lt c00
  go_wp2_with fail
  go_ret
  refine ⟨rfl, ?_⟩
  repeat (with_reducible first | exact Below.refl _ _ | assumption | refine Below.drew ?_ | refine bl_drewN ?_ _ | refine Below.setCell ?_ (by first | omega | (simp; done) | (simp; omega)) _ | refine Below.alloc ?_ (by first | omega | (simp; done) | (simp; omega)) _ | refine bl_next ?_ (by assumption) | refine bl_trans ?_ (by assumption) (by first | omega | (simp; done) | (simp; omega)))

set_option maxHeartbeats 1000000 in
theorem hasNone_eq_im_w (a b r : Nat)
    (hr : Ieee.double.order r 0 = some .eq)
    (al : ∀ w, Calls Tryz.prog 113 #[.agg #[.complex .f64 a b, .float .f64 r]] w fun e w' => e = .returned (.bool false) ∧ Below w.heap.size w w')
    (n1 : ∀ w, Calls Tryz.prog 144 #[.float .f64 a] w fun e w' => e = .returned (.bool true) ∧ Below w.heap.size w w')
    (n2 : ∀ w, Calls Tryz.prog 144 #[.float .f64 b] w fun e w' => e = .returned (.bool false) ∧ Below w.heap.size w w') (w : World) :
    Calls Tryz.prog 111 #[.agg #[.complex .f64 a b, .float .f64 r]] w fun e w' => e = .returned (.bool true) ∧ Below w.heap.size w w' := by
  go_enter Tryz.func111, Tryz.ntmps111
  go_wp2_with fail
  obtain ⟨w0, hw0⟩ : ∃ v, v = (w.alloc (.cells #[.complex .f64 a b, .float .f64 r] 42)) := ⟨_, rfl⟩
  rw [← hw0]
  have c00 : w0.cell? ⟨w.heap.size, 0, none⟩ = some (.complex .f64 a b) := by simp [hw0, go_sem]
  have c01 : w0.cell? ⟨w.heap.size, 1, none⟩ = some (.float .f64 r) := by simp [hw0, go_sem]
  have s0 : w.heap.size + 1 ≤ w0.heap.size := by simp [hw0]
  have hB0 : Below w.heap.size w w0 := by
    rw [hw0]
    repeat (with_reducible first | exact Below.refl _ _ | assumption | refine Below.drew ?_ | refine bl_drewN ?_ _ | refine Below.setCell ?_ (by first | omega | (simp; done) | (simp; omega)) _ | refine Below.alloc ?_ (by first | omega | (simp; done) | (simp; omega)) _ | refine bl_next ?_ (by assumption) | refine bl_trans ?_ (by assumption) (by first | omega | (simp; done) | (simp; omega)))
  clear hw0
  go_at_call 113
  refine (al _).mono ?_
  rintro e w1 ⟨rfl, hb1⟩
  have s1 := hb1.size
  try simp at s1
  replace c00 := bkeep2 hb1 c00
  replace c01 := bkeep2 hb1 c01
  have l0 : w.heap.size < w1.heap.size := cell_lt c00
  go_wp2_with fail
  go_at_call 144
  refine (n1 _).mono ?_
  rintro e w2 ⟨rfl, hb2⟩
  have s2 := hb2.size
  try simp at s2
  replace c00 := bkeep2 hb2 c00
  replace c01 := bkeep2 hb2 c01
  have l0 : w.heap.size < w2.heap.size := cell_lt c00
  go_wp2_with fail
  go_at_call 144
  refine (n2 _).mono ?_
  rintro e w3 ⟨rfl, hb3⟩
  have s3 := hb3.size
  try simp at s3
  replace c00 := bkeep2 hb3 c00
  replace c01 := bkeep2 hb3 c01
  have l0 : w.heap.size < w3.heap.size := cell_lt c00
  go_wp2_with fail
  go_ret
  refine ⟨rfl, ?_⟩
  repeat (with_reducible first | exact Below.refl _ _ | assumption | refine Below.drew ?_ | refine bl_drewN ?_ _ | refine Below.setCell ?_ (by first | omega | (simp; done) | (simp; omega)) _ | refine Below.alloc ?_ (by first | omega | (simp; done) | (simp; omega)) _ | refine bl_next ?_ (by assumption) | refine bl_trans ?_ (by assumption) (by first | omega | (simp; done) | (simp; omega)))

set_option maxHeartbeats 1000000 in
theorem hasNone_eq_ok_w (a b r : Nat)
    (hr : Ieee.double.order r 0 = some .eq)
    (al : ∀ w, Calls Tryz.prog 113 #[.agg #[.complex .f64 a b, .float .f64 r]] w fun e w' => e = .returned (.bool false) ∧ Below w.heap.size w w')
    (n1 : ∀ w, Calls Tryz.prog 144 #[.float .f64 a] w fun e w' => e = .returned (.bool true) ∧ Below w.heap.size w w')
    (n2 : ∀ w, Calls Tryz.prog 144 #[.float .f64 b] w fun e w' => e = .returned (.bool true) ∧ Below w.heap.size w w') (w : World) :
    Calls Tryz.prog 111 #[.agg #[.complex .f64 a b, .float .f64 r]] w fun e w' => e = .returned (.bool false) ∧ Below w.heap.size w w' := by
  go_enter Tryz.func111, Tryz.ntmps111
  go_wp2_with fail
  obtain ⟨w0, hw0⟩ : ∃ v, v = (w.alloc (.cells #[.complex .f64 a b, .float .f64 r] 42)) := ⟨_, rfl⟩
  rw [← hw0]
  have c00 : w0.cell? ⟨w.heap.size, 0, none⟩ = some (.complex .f64 a b) := by simp [hw0, go_sem]
  have c01 : w0.cell? ⟨w.heap.size, 1, none⟩ = some (.float .f64 r) := by simp [hw0, go_sem]
  have s0 : w.heap.size + 1 ≤ w0.heap.size := by simp [hw0]
  have hB0 : Below w.heap.size w w0 := by
    rw [hw0]
    repeat (with_reducible first | exact Below.refl _ _ | assumption | refine Below.drew ?_ | refine bl_drewN ?_ _ | refine Below.setCell ?_ (by first | omega | (simp; done) | (simp; omega)) _ | refine Below.alloc ?_ (by first | omega | (simp; done) | (simp; omega)) _ | refine bl_next ?_ (by assumption) | refine bl_trans ?_ (by assumption) (by first | omega | (simp; done) | (simp; omega)))
  clear hw0
  go_at_call 113
  refine (al _).mono ?_
  rintro e w1 ⟨rfl, hb1⟩
  have s1 := hb1.size
  try simp at s1
  replace c00 := bkeep2 hb1 c00
  replace c01 := bkeep2 hb1 c01
  have l0 : w.heap.size < w1.heap.size := cell_lt c00
  go_wp2_with fail
  go_at_call 144
  refine (n1 _).mono ?_
  rintro e w2 ⟨rfl, hb2⟩
  have s2 := hb2.size
  try simp at s2
  replace c00 := bkeep2 hb2 c00
  replace c01 := bkeep2 hb2 c01
  have l0 : w.heap.size < w2.heap.size := cell_lt c00
  go_wp2_with fail
  go_at_call 144
  refine (n2 _).mono ?_
  rintro e w3 ⟨rfl, hb3⟩
  have s3 := hb3.size
  try simp at s3
  replace c00 := bkeep2 hb3 c00
  replace c01 := bkeep2 hb3 c01
  have l0 : w.heap.size < w3.heap.size := cell_lt c00
  go_wp2_with fail
  go_ret
  refine ⟨rfl, ?_⟩
  repeat (with_reducible first | exact Below.refl _ _ | assumption | refine Below.drew ?_ | refine bl_drewN ?_ _ | refine Below.setCell ?_ (by first | omega | (simp; done) | (simp; omega)) _ | refine Below.alloc ?_ (by first | omega | (simp; done) | (simp; omega)) _ | refine bl_next ?_ (by assumption) | refine bl_trans ?_ (by assumption) (by first | omega | (simp; done) | (simp; omega)))

set_option maxHeartbeats 1000000 in
theorem middle_1_w (X1 X2 s m p : Nat)
    (h1 : Ieee.double.add X1 X2 = some s)
    (h2 : Ieee.double.div s 4611686018427387904 = some m)
    (i : ∀ w, Calls Tryz.prog 60 #[.float .f64 m, .int .i64 0] w fun e w' => e = .returned (.bool false) ∧ w' = w)
    (pl : ∀ w, Calls Tryz.prog 136 #[.float .f64 m] w fun e w' => e = .returned (.float .f64 p) ∧ w' = w) (w : World) :
    Calls Tryz.prog 151 #[.agg #[.float .f64 X1, .float .f64 X2]] w fun e w' => e = .returned (.float .f64 p) ∧ Below w.heap.size w w' := by
  have a1 := fun t' w => run_float_arith (P := Tryz.prog) w .add t' .f64 _ _ _ h1
  have a2 := fun t' w => run_float_arith (P := Tryz.prog) w .quo t' .f64 _ _ _ h2
  clear h1 h2
  go_enter Tryz.func151, Tryz.ntmps151
  go_wp2_with fail
  obtain ⟨w0, hw0⟩ : ∃ v, v = (w.alloc (.cells #[.float .f64 X1, .float .f64 X2] 37)) := ⟨_, rfl⟩
  rw [← hw0]
  have c00 : w0.cell? ⟨w.heap.size, 0, none⟩ = some (.float .f64 X1) := by simp [hw0, go_sem]
  have c01 : w0.cell? ⟨w.heap.size, 1, none⟩ = some (.float .f64 X2) := by simp [hw0, go_sem]
  have s0 : w.heap.size + 1 ≤ w0.heap.size := by simp [hw0]
  have hB0 : Below w.heap.size w w0 := by
    rw [hw0]
    repeat (with_reducible first | exact Below.refl _ _ | assumption | refine Below.drew ?_ | refine bl_drewN ?_ _ | refine Below.setCell ?_ (by first | omega | (simp; done) | (simp; omega)) _ | refine Below.alloc ?_ (by first | omega | (simp; done) | (simp; omega)) _ | refine bl_next ?_ (by assumption) | refine bl_trans ?_ (by assumption) (by first | omega | (simp; done) | (simp; omega)))
  clear hw0
  go_at_call 60
  refine (i _).mono ?_
  rintro e w' ⟨rfl, rfl⟩
  go_wp2_with fail
  go_at_call 136
  refine (pl _).mono ?_
  rintro e w' ⟨rfl, rfl⟩
  go_wp2_with fail
  go_ret
  refine ⟨rfl, ?_⟩
  repeat (with_reducible first | exact Below.refl _ _ | assumption | refine Below.drew ?_ | refine bl_drewN ?_ _ | refine Below.setCell ?_ (by first | omega | (simp; done) | (simp; omega)) _ | refine Below.alloc ?_ (by first | omega | (simp; done) | (simp; omega)) _ | refine bl_next ?_ (by assumption) | refine bl_trans ?_ (by assumption) (by first | omega | (simp; done) | (simp; omega)))

set_option maxHeartbeats 1000000 in
theorem middle_2_w (X1 X2 s m u v n p : Nat)
    (h1 : Ieee.double.add X1 X2 = some s)
    (h2 : Ieee.double.div s 4611686018427387904 = some m)
    (i : ∀ w, Calls Tryz.prog 60 #[.float .f64 m, .int .i64 0] w fun e w' => e = .returned (.bool true) ∧ w' = w)
    (h3 : Ieee.double.div X1 4611686018427387904 = some u)
    (h4 : Ieee.double.div X2 4611686018427387904 = some v)
    (h5 : Ieee.double.add u v = some n)
    (pl : ∀ w, Calls Tryz.prog 136 #[.float .f64 n] w fun e w' => e = .returned (.float .f64 p) ∧ w' = w) (w : World) :
    Calls Tryz.prog 151 #[.agg #[.float .f64 X1, .float .f64 X2]] w fun e w' => e = .returned (.float .f64 p) ∧ Below w.heap.size w w' := by
  have a1 := fun t' w => run_float_arith (P := Tryz.prog) w .add t' .f64 _ _ _ h1
  have a2 := fun t' w => run_float_arith (P := Tryz.prog) w .quo t' .f64 _ _ _ h2
  have a3 := fun t' w => run_float_arith (P := Tryz.prog) w .quo t' .f64 _ _ _ h3
  have a4 := fun t' w => run_float_arith (P := Tryz.prog) w .quo t' .f64 _ _ _ h4
  have a5 := fun t' w => run_float_arith (P := Tryz.prog) w .add t' .f64 _ _ _ h5
  clear h1 h2 h3 h4 h5
  go_enter Tryz.func151, Tryz.ntmps151
  go_wp2_with fail
  obtain ⟨w0, hw0⟩ : ∃ v, v = (w.alloc (.cells #[.float .f64 X1, .float .f64 X2] 37)) := ⟨_, rfl⟩
  rw [← hw0]
  have c00 : w0.cell? ⟨w.heap.size, 0, none⟩ = some (.float .f64 X1) := by simp [hw0, go_sem]
  have c01 : w0.cell? ⟨w.heap.size, 1, none⟩ = some (.float .f64 X2) := by simp [hw0, go_sem]
  have s0 : w.heap.size + 1 ≤ w0.heap.size := by simp [hw0]
  have hB0 : Below w.heap.size w w0 := by
    rw [hw0]
    repeat (with_reducible first | exact Below.refl _ _ | assumption | refine Below.drew ?_ | refine bl_drewN ?_ _ | refine Below.setCell ?_ (by first | omega | (simp; done) | (simp; omega)) _ | refine Below.alloc ?_ (by first | omega | (simp; done) | (simp; omega)) _ | refine bl_next ?_ (by assumption) | refine bl_trans ?_ (by assumption) (by first | omega | (simp; done) | (simp; omega)))
  clear hw0
  go_at_call 60
  refine (i _).mono ?_
  rintro e w' ⟨rfl, rfl⟩
  go_wp2_with fail
  go_at_call 136
  refine (pl _).mono ?_
  rintro e w' ⟨rfl, rfl⟩
  go_wp2_with fail
  go_ret
  refine ⟨rfl, ?_⟩
  repeat (with_reducible first | exact Below.refl _ _ | assumption | refine Below.drew ?_ | refine bl_drewN ?_ _ | refine Below.setCell ?_ (by first | omega | (simp; done) | (simp; omega)) _ | refine Below.alloc ?_ (by first | omega | (simp; done) | (simp; omega)) _ | refine bl_next ?_ (by assumption) | refine bl_trans ?_ (by assumption) (by first | omega | (simp; done) | (simp; omega)))

set_option maxHeartbeats 1000000 in
theorem reach_w (X1 X2 m mn ln p q r : Nat)
    (g1 : Op.unary .neg (.float .f64 m) = pure (.float .f64 mn))
    (g2 : Op.unary .neg (.float .f64 X1) = pure (.float .f64 ln))
    (u1 : ∀ w, Calls Tryz.prog 152 #[.float .f64 X2, .float .f64 mn] w fun e w' => e = .returned (.float .f64 p) ∧ Below w.heap.size w w')
    (u2 : ∀ w, Calls Tryz.prog 152 #[.float .f64 m, .float .f64 ln] w fun e w' => e = .returned (.float .f64 q) ∧ Below w.heap.size w w')
    (hm : ∀ ts t w, (Builtin.max_ ts t #[.float .f64 p, .float .f64 q]).run Tryz.prog w = .ok (.float .f64 r) w) (w : World) :
    Calls Tryz.prog 154 #[.agg #[.float .f64 X1, .float .f64 X2], .float .f64 m] w fun e w' => e = .returned (.float .f64 r) ∧ Below w.heap.size w w' := by
  go_enter Tryz.func154, Tryz.ntmps154
  go_wp2_with fail
  obtain ⟨w0, hw0⟩ : ∃ v, v = (w.alloc (.cells #[.float .f64 X1, .float .f64 X2] 37)) := ⟨_, rfl⟩
  rw [← hw0]
  have c00 : w0.cell? ⟨w.heap.size, 0, none⟩ = some (.float .f64 X1) := by simp [hw0, go_sem]
  have c01 : w0.cell? ⟨w.heap.size, 1, none⟩ = some (.float .f64 X2) := by simp [hw0, go_sem]
  have s0 : w.heap.size + 1 ≤ w0.heap.size := by simp [hw0]
  have hB0 : Below w.heap.size w w0 := by
    rw [hw0]
    repeat (with_reducible first | exact Below.refl _ _ | assumption | refine Below.drew ?_ | refine bl_drewN ?_ _ | refine Below.setCell ?_ (by first | omega | (simp; done) | (simp; omega)) _ | refine Below.alloc ?_ (by first | omega | (simp; done) | (simp; omega)) _ | refine bl_next ?_ (by assumption) | refine bl_trans ?_ (by assumption) (by first | omega | (simp; done) | (simp; omega)))
  clear hw0
  go_region_held3 (fun w' => w'.cell? ⟨w.heap.size, 0, none⟩ = some (.float .f64 X1) ∧ w'.cell? ⟨w.heap.size, 1, none⟩ = some (.float .f64 X2)) (((try dsimp only); (try go_split_ands); (repeat' apply And.intro) <;> first | (with_reducible assumption) | (rw []; (with_reducible assumption)) | (with_reducible refine bkeep2 hb ?_; first | (with_reducible assumption) | (simp [*]; done)) | go_keep)) (first | (go_at_call 152; with_reducible refine (u1 _).mono ?_; rintro e w' ⟨rfl, hb⟩) | (go_at_call 152; with_reducible refine (u2 _).mono ?_; rintro e w' ⟨rfl, hb⟩))
  all_goals (go_wp2_with fail; go_ret; refine ⟨rfl, ?_⟩; repeat (with_reducible first | exact Below.refl _ _ | assumption | refine Below.drew ?_ | refine bl_drewN ?_ _ | refine Below.setCell ?_ (by first | omega | (simp; done) | (simp; omega)) _ | refine Below.alloc ?_ (by first | omega | (simp; done) | (simp; omega)) _ | refine bl_next ?_ (by assumption) | refine bl_trans ?_ (by assumption) (by first | omega | (simp; done) | (simp; omega))))

end Go.Proofs.YtacnclofbnafiabGreatDoor

namespace Go.Proofs.YtacnclofbnafiabGreatDoor
open Go.RowKit Fl

@[go_sem] theorem run_store_complex {P : Program} {w : World} {a : Addr} {m : Mode} (k : FloatKind) (b c : Nat) : (store a (.complex k b c) m).run P w = stored P w a (.complex k b c) m := run_store P w a _ m rfl
set_option maxHeartbeats 1000000 in
theorem point_w (a b : Nat) (w : World) :
    Calls Tryz.prog 115 #[.complex .f64 a b] w fun e w' => e = .returned (.agg #[.float .f64 a, .float .f64 a, .float .f64 b, .float .f64 b]) ∧ Below w.heap.size w w' := by
  go_enter Tryz.func115, Tryz.ntmps115
  go_wp2_with fail
  refine bodyPost_ret (v := .agg #[.float .f64 a, .float .f64 a, .float .f64 b, .float .f64 b]) (by simp [results, Tryz.results115, go_sem, *]) rfl ⟨rfl, ?_⟩
  repeat (with_reducible first | exact Below.refl _ _ | assumption | refine Below.drew ?_ | refine bl_drewN ?_ _ | refine Below.setCell ?_ (by first | omega | (simp; done) | (simp; omega)) _ | refine Below.alloc ?_ (by first | omega | (simp; done) | (simp; omega)) _ | refine bl_next ?_ (by assumption) | refine bl_trans ?_ (by assumption) (by first | omega | (simp; done) | (simp; omega)))

set_option maxHeartbeats 1000000 in
theorem square_w (r n : Nat)
    (g : Op.unary .neg (.float .f64 r) = pure (.float .f64 n)) (w : World) :
    Calls Tryz.prog 116 #[.float .f64 r] w fun e w' => e = .returned (.agg #[.float .f64 n, .float .f64 r, .float .f64 n, .float .f64 r]) ∧ Below w.heap.size w w' := by
  go_enter Tryz.func116, Tryz.ntmps116
  go_wp2_with fail
  refine bodyPost_ret (v := .agg #[.float .f64 n, .float .f64 r, .float .f64 n, .float .f64 r]) (by simp [results, Tryz.results116, go_sem, *]) rfl ⟨rfl, ?_⟩
  repeat (with_reducible first | exact Below.refl _ _ | assumption | refine Below.drew ?_ | refine bl_drewN ?_ _ | refine Below.setCell ?_ (by first | omega | (simp; done) | (simp; omega)) _ | refine Below.alloc ?_ (by first | omega | (simp; done) | (simp; omega)) _ | refine bl_next ?_ (by assumption) | refine bl_trans ?_ (by assumption) (by first | omega | (simp; done) | (simp; omega)))

set_option maxHeartbeats 1000000 in
theorem noDisc_w  (w : World) :
    Calls Tryz.prog 122 #[] w fun e w' => e = .returned (.agg #[.complex .f64 0 0, .float .f64 13830554455654793216]) ∧ Below w.heap.size w w' := by
  go_enter Tryz.func122, Tryz.ntmps122
  go_wp2_with fail
  refine bodyPost_ret (v := .agg #[.complex .f64 0 0, .float .f64 13830554455654793216]) (by simp [results, Tryz.results122, go_sem, *]) rfl ⟨rfl, ?_⟩
  repeat (with_reducible first | exact Below.refl _ _ | assumption | refine Below.drew ?_ | refine bl_drewN ?_ _ | refine Below.setCell ?_ (by first | omega | (simp; done) | (simp; omega)) _ | refine Below.alloc ?_ (by first | omega | (simp; done) | (simp; omega)) _ | refine bl_next ?_ (by assumption) | refine bl_trans ?_ (by assumption) (by first | omega | (simp; done) | (simp; omega)))

set_option maxHeartbeats 1000000 in
theorem allDisc_w (i : Nat)
    (h : ∀ w, Calls Tryz.prog 141 #[.int .i64 1] w fun e w' => e = .returned (.float .f64 i) ∧ w' = w) (w : World) :
    Calls Tryz.prog 135 #[] w fun e w' => e = .returned (.agg #[.complex .f64 0 0, .float .f64 i]) ∧ Below w.heap.size w w' := by
  go_enter Tryz.func135, Tryz.ntmps135
  go_wp2_with fail
  obtain ⟨w0, hw0⟩ : ∃ v, v = (w.alloc (.cells #[.complex .f64 0 0, .float .f64 0] 42)) := ⟨_, rfl⟩
  rw [← hw0]
  have c00 : w0.cell? ⟨w.heap.size, 0, none⟩ = some (.complex .f64 0 0) := by simp [hw0, go_sem]
  have fc00 : w0.frozen? ⟨w.heap.size, 0, none⟩ = false := by simp [hw0, go_sem]
  have c01 : w0.cell? ⟨w.heap.size, 1, none⟩ = some (.float .f64 0) := by simp [hw0, go_sem]
  have fc01 : w0.frozen? ⟨w.heap.size, 1, none⟩ = false := by simp [hw0, go_sem]
  have s0 : w.heap.size + 1 ≤ w0.heap.size := by simp [hw0]
  have hB0 : Below w.heap.size w w0 := by
    rw [hw0]
    repeat (with_reducible first | exact Below.refl _ _ | assumption | refine Below.drew ?_ | refine bl_drewN ?_ _ | refine Below.setCell ?_ (by first | omega | (simp; done) | (simp; omega)) _ | refine Below.alloc ?_ (by first | omega | (simp; done) | (simp; omega)) _ | refine bl_next ?_ (by assumption) | refine bl_trans ?_ (by assumption) (by first | omega | (simp; done) | (simp; omega)))
  clear hw0
  go_at_call 141
  refine (h _).mono ?_
  rintro e w' ⟨rfl, rfl⟩
  go_wp2_with fail
  refine bodyPost_ret (v := .agg #[.complex .f64 0 0, .float .f64 i]) (by simp [results, Tryz.results135, go_sem, *]) rfl ⟨rfl, ?_⟩
  repeat (with_reducible first | exact Below.refl _ _ | assumption | refine Below.drew ?_ | refine bl_drewN ?_ _ | refine Below.setCell ?_ (by first | omega | (simp; done) | (simp; omega)) _ | refine Below.alloc ?_ (by first | omega | (simp; done) | (simp; omega)) _ | refine bl_next ?_ (by assumption) | refine bl_trans ?_ (by assumption) (by first | omega | (simp; done) | (simp; omega)))

set_option maxHeartbeats 1000000 in
theorem allBox_w (e1 e2 : Nat)
    (em : ∀ w, Calls Tryz.prog 146 #[] w fun e w' => e = .returned (.agg #[.float .f64 e1, .float .f64 e2]) ∧ Below w.heap.size w w') (w : World) :
    Calls Tryz.prog 114 #[] w fun e w' => e = .returned (.agg #[.float .f64 e1, .float .f64 e2, .float .f64 e1, .float .f64 e2]) ∧ Below w.heap.size w w' := by
  go_enter Tryz.func114, Tryz.ntmps114
  go_wp2_with fail
  obtain ⟨w0, hw0⟩ : ∃ v, v = (w.alloc (.cells #[.float .f64 0, .float .f64 0, .float .f64 0, .float .f64 0] 39)) := ⟨_, rfl⟩
  rw [← hw0]
  have c00 : w0.cell? ⟨w.heap.size, 0, none⟩ = some (.float .f64 0) := by simp [hw0, go_sem]
  have fc00 : w0.frozen? ⟨w.heap.size, 0, none⟩ = false := by simp [hw0, go_sem]
  have c01 : w0.cell? ⟨w.heap.size, 1, none⟩ = some (.float .f64 0) := by simp [hw0, go_sem]
  have fc01 : w0.frozen? ⟨w.heap.size, 1, none⟩ = false := by simp [hw0, go_sem]
  have c02 : w0.cell? ⟨w.heap.size, 2, none⟩ = some (.float .f64 0) := by simp [hw0, go_sem]
  have fc02 : w0.frozen? ⟨w.heap.size, 2, none⟩ = false := by simp [hw0, go_sem]
  have c03 : w0.cell? ⟨w.heap.size, 3, none⟩ = some (.float .f64 0) := by simp [hw0, go_sem]
  have fc03 : w0.frozen? ⟨w.heap.size, 3, none⟩ = false := by simp [hw0, go_sem]
  have s0 : w.heap.size + 1 ≤ w0.heap.size := by simp [hw0]
  have hB0 : Below w.heap.size w w0 := by
    rw [hw0]
    repeat (with_reducible first | exact Below.refl _ _ | assumption | refine Below.drew ?_ | refine bl_drewN ?_ _ | refine Below.setCell ?_ (by first | omega | (simp; done) | (simp; omega)) _ | refine Below.alloc ?_ (by first | omega | (simp; done) | (simp; omega)) _ | refine bl_next ?_ (by assumption) | refine bl_trans ?_ (by assumption) (by first | omega | (simp; done) | (simp; omega)))
  clear hw0
  go_at_call 146
  refine (em _).mono ?_
  rintro e w1 ⟨rfl, hb1⟩
  have s1 := hb1.size
  try simp at s1
  replace fc00 := bfroz2 hb1 c00 fc00
  replace fc01 := bfroz2 hb1 c01 fc01
  replace fc02 := bfroz2 hb1 c02 fc02
  replace fc03 := bfroz2 hb1 c03 fc03
  replace c00 := bkeep2 hb1 c00
  replace c01 := bkeep2 hb1 c01
  replace c02 := bkeep2 hb1 c02
  replace c03 := bkeep2 hb1 c03
  have l0 : w.heap.size < w1.heap.size := cell_lt c00
  go_wp2_with fail
  go_at_call 146
  refine (em _).mono ?_
  rintro e w2 ⟨rfl, hb2⟩
  have s2 := hb2.size
  try simp at s2
  replace fc00 := bfroz2 hb2 c00 fc00
  replace fc01 := bfroz2 hb2 c01 fc01
  replace fc02 := bfroz2 hb2 c02 fc02
  replace fc03 := bfroz2 hb2 c03 fc03
  replace c00 := bkeep2 hb2 c00
  replace c01 := bkeep2 hb2 c01
  replace c02 := bkeep2 hb2 c02
  replace c03 := bkeep2 hb2 c03
  have l0 : w.heap.size < w2.heap.size := cell_lt c00
  go_wp2_with fail
  refine bodyPost_ret (v := .agg #[.float .f64 e1, .float .f64 e2, .float .f64 e1, .float .f64 e2]) (by simp [results, Tryz.results114, go_sem, *]) rfl ⟨rfl, ?_⟩
  repeat (with_reducible first | exact Below.refl _ _ | assumption | refine Below.drew ?_ | refine bl_drewN ?_ _ | refine Below.setCell ?_ (by first | omega | (simp; done) | (simp; omega)) _ | refine Below.alloc ?_ (by first | omega | (simp; done) | (simp; omega)) _ | refine bl_next ?_ (by assumption) | refine bl_trans ?_ (by assumption) (by first | omega | (simp; done) | (simp; omega)))

set_option maxHeartbeats 1000000 in
theorem around_e1_w (X1 X2 X3 X4 rad i : Nat)
    (e1 : ∀ w, Calls Tryz.prog 150 #[.agg #[.float .f64 X1, .float .f64 X2]] w fun e w' => e = .returned (.bool true) ∧ Below w.heap.size w w')
    (ad : ∀ w, Calls Tryz.prog 135 #[] w fun e w' => e = .returned (.agg #[.complex .f64 0 0, .float .f64 i]) ∧ Below w.heap.size w w') (w : World) :
    Calls Tryz.prog 123 #[.agg #[.float .f64 X1, .float .f64 X2, .float .f64 X3, .float .f64 X4], .float .f64 rad] w fun e w' => e = .returned (.agg #[.complex .f64 0 0, .float .f64 i]) ∧ Below w.heap.size w w' := by
  go_enter Tryz.func123, Tryz.ntmps123
  go_wp2_with fail
  obtain ⟨w0, hw0⟩ : ∃ v, v = ((w.alloc (.cells #[.float .f64 X1, .float .f64 X2, .float .f64 X3, .float .f64 X4] 39)).alloc (.cells #[.complex .f64 0 0, .float .f64 0] 42)) := ⟨_, rfl⟩
  rw [← hw0]
  have c00 : w0.cell? ⟨w.heap.size, 0, none⟩ = some (.float .f64 X1) := by simp [hw0, go_sem]
  have c01 : w0.cell? ⟨w.heap.size, 1, none⟩ = some (.float .f64 X2) := by simp [hw0, go_sem]
  have c02 : w0.cell? ⟨w.heap.size, 2, none⟩ = some (.float .f64 X3) := by simp [hw0, go_sem]
  have c03 : w0.cell? ⟨w.heap.size, 3, none⟩ = some (.float .f64 X4) := by simp [hw0, go_sem]
  have c10 : w0.cell? ⟨w.heap.size + 1, 0, none⟩ = some (.complex .f64 0 0) := by simp [hw0, go_sem]
  have fc10 : w0.frozen? ⟨w.heap.size + 1, 0, none⟩ = false := by simp [hw0, go_sem]
  have c11 : w0.cell? ⟨w.heap.size + 1, 1, none⟩ = some (.float .f64 0) := by simp [hw0, go_sem]
  have fc11 : w0.frozen? ⟨w.heap.size + 1, 1, none⟩ = false := by simp [hw0, go_sem]
  have s0 : w.heap.size + 1 + 1 ≤ w0.heap.size := by simp [hw0]
  have hB0 : Below w.heap.size w w0 := by
    rw [hw0]
    repeat (with_reducible first | exact Below.refl _ _ | assumption | refine Below.drew ?_ | refine bl_drewN ?_ _ | refine Below.setCell ?_ (by first | omega | (simp; done) | (simp; omega)) _ | refine Below.alloc ?_ (by first | omega | (simp; done) | (simp; omega)) _ | refine bl_next ?_ (by assumption) | refine bl_trans ?_ (by assumption) (by first | omega | (simp; done) | (simp; omega)))
  clear hw0
  go_at_call 150
  refine (e1 _).mono ?_
  rintro e w1 ⟨rfl, hb1⟩
  have s1 := hb1.size
  try simp at s1
  replace fc10 := bfroz2 hb1 c10 fc10
  replace fc11 := bfroz2 hb1 c11 fc11
  replace c00 := bkeep2 hb1 c00
  replace c01 := bkeep2 hb1 c01
  replace c02 := bkeep2 hb1 c02
  replace c03 := bkeep2 hb1 c03
  replace c10 := bkeep2 hb1 c10
  replace c11 := bkeep2 hb1 c11
  have l0 : w.heap.size < w1.heap.size := cell_lt c00
  have l1 : w.heap.size + 1 < w1.heap.size := cell_lt c10
  go_wp2_with fail
  go_at_call 135
  refine (ad _).mono ?_
  rintro e w2 ⟨rfl, hb2⟩
  have s2 := hb2.size
  try simp at s2
  replace fc10 := bfroz2 hb2 c10 fc10
  replace fc11 := bfroz2 hb2 c11 fc11
  replace c00 := bkeep2 hb2 c00
  replace c01 := bkeep2 hb2 c01
  replace c02 := bkeep2 hb2 c02
  replace c03 := bkeep2 hb2 c03
  replace c10 := bkeep2 hb2 c10
  replace c11 := bkeep2 hb2 c11
  have l0 : w.heap.size < w2.heap.size := cell_lt c00
  have l1 : w.heap.size + 1 < w2.heap.size := cell_lt c10
  go_wp2_with fail
  refine bodyPost_ret (v := .agg #[.complex .f64 0 0, .float .f64 i]) (by simp [results, Tryz.results123, go_sem, *]) rfl ⟨rfl, ?_⟩
  repeat (with_reducible first | exact Below.refl _ _ | assumption | refine Below.drew ?_ | refine bl_drewN ?_ _ | refine Below.setCell ?_ (by first | omega | (simp; done) | (simp; omega)) _ | refine Below.alloc ?_ (by first | omega | (simp; done) | (simp; omega)) _ | refine bl_next ?_ (by assumption) | refine bl_trans ?_ (by assumption) (by first | omega | (simp; done) | (simp; omega)))

set_option maxHeartbeats 1000000 in
theorem around_e2_w (X1 X2 X3 X4 rad i : Nat)
    (e1 : ∀ w, Calls Tryz.prog 150 #[.agg #[.float .f64 X1, .float .f64 X2]] w fun e w' => e = .returned (.bool false) ∧ Below w.heap.size w w')
    (e2 : ∀ w, Calls Tryz.prog 150 #[.agg #[.float .f64 X3, .float .f64 X4]] w fun e w' => e = .returned (.bool true) ∧ Below w.heap.size w w')
    (ad : ∀ w, Calls Tryz.prog 135 #[] w fun e w' => e = .returned (.agg #[.complex .f64 0 0, .float .f64 i]) ∧ Below w.heap.size w w') (w : World) :
    Calls Tryz.prog 123 #[.agg #[.float .f64 X1, .float .f64 X2, .float .f64 X3, .float .f64 X4], .float .f64 rad] w fun e w' => e = .returned (.agg #[.complex .f64 0 0, .float .f64 i]) ∧ Below w.heap.size w w' := by
  go_enter Tryz.func123, Tryz.ntmps123
  go_wp2_with fail
  obtain ⟨w0, hw0⟩ : ∃ v, v = ((w.alloc (.cells #[.float .f64 X1, .float .f64 X2, .float .f64 X3, .float .f64 X4] 39)).alloc (.cells #[.complex .f64 0 0, .float .f64 0] 42)) := ⟨_, rfl⟩
  rw [← hw0]
  have c00 : w0.cell? ⟨w.heap.size, 0, none⟩ = some (.float .f64 X1) := by simp [hw0, go_sem]
  have c01 : w0.cell? ⟨w.heap.size, 1, none⟩ = some (.float .f64 X2) := by simp [hw0, go_sem]
  have c02 : w0.cell? ⟨w.heap.size, 2, none⟩ = some (.float .f64 X3) := by simp [hw0, go_sem]
  have c03 : w0.cell? ⟨w.heap.size, 3, none⟩ = some (.float .f64 X4) := by simp [hw0, go_sem]
  have c10 : w0.cell? ⟨w.heap.size + 1, 0, none⟩ = some (.complex .f64 0 0) := by simp [hw0, go_sem]
  have fc10 : w0.frozen? ⟨w.heap.size + 1, 0, none⟩ = false := by simp [hw0, go_sem]
  have c11 : w0.cell? ⟨w.heap.size + 1, 1, none⟩ = some (.float .f64 0) := by simp [hw0, go_sem]
  have fc11 : w0.frozen? ⟨w.heap.size + 1, 1, none⟩ = false := by simp [hw0, go_sem]
  have s0 : w.heap.size + 1 + 1 ≤ w0.heap.size := by simp [hw0]
  have hB0 : Below w.heap.size w w0 := by
    rw [hw0]
    repeat (with_reducible first | exact Below.refl _ _ | assumption | refine Below.drew ?_ | refine bl_drewN ?_ _ | refine Below.setCell ?_ (by first | omega | (simp; done) | (simp; omega)) _ | refine Below.alloc ?_ (by first | omega | (simp; done) | (simp; omega)) _ | refine bl_next ?_ (by assumption) | refine bl_trans ?_ (by assumption) (by first | omega | (simp; done) | (simp; omega)))
  clear hw0
  go_at_call 150
  refine (e1 _).mono ?_
  rintro e w1 ⟨rfl, hb1⟩
  have s1 := hb1.size
  try simp at s1
  replace fc10 := bfroz2 hb1 c10 fc10
  replace fc11 := bfroz2 hb1 c11 fc11
  replace c00 := bkeep2 hb1 c00
  replace c01 := bkeep2 hb1 c01
  replace c02 := bkeep2 hb1 c02
  replace c03 := bkeep2 hb1 c03
  replace c10 := bkeep2 hb1 c10
  replace c11 := bkeep2 hb1 c11
  have l0 : w.heap.size < w1.heap.size := cell_lt c00
  have l1 : w.heap.size + 1 < w1.heap.size := cell_lt c10
  go_wp2_with fail
  go_at_call 150
  refine (e2 _).mono ?_
  rintro e w2 ⟨rfl, hb2⟩
  have s2 := hb2.size
  try simp at s2
  replace fc10 := bfroz2 hb2 c10 fc10
  replace fc11 := bfroz2 hb2 c11 fc11
  replace c00 := bkeep2 hb2 c00
  replace c01 := bkeep2 hb2 c01
  replace c02 := bkeep2 hb2 c02
  replace c03 := bkeep2 hb2 c03
  replace c10 := bkeep2 hb2 c10
  replace c11 := bkeep2 hb2 c11
  have l0 : w.heap.size < w2.heap.size := cell_lt c00
  have l1 : w.heap.size + 1 < w2.heap.size := cell_lt c10
  go_wp2_with fail
  go_at_call 135
  refine (ad _).mono ?_
  rintro e w3 ⟨rfl, hb3⟩
  have s3 := hb3.size
  try simp at s3
  replace fc10 := bfroz2 hb3 c10 fc10
  replace fc11 := bfroz2 hb3 c11 fc11
  replace c00 := bkeep2 hb3 c00
  replace c01 := bkeep2 hb3 c01
  replace c02 := bkeep2 hb3 c02
  replace c03 := bkeep2 hb3 c03
  replace c10 := bkeep2 hb3 c10
  replace c11 := bkeep2 hb3 c11
  have l0 : w.heap.size < w3.heap.size := cell_lt c00
  have l1 : w.heap.size + 1 < w3.heap.size := cell_lt c10
  go_wp2_with fail
  refine bodyPost_ret (v := .agg #[.complex .f64 0 0, .float .f64 i]) (by simp [results, Tryz.results123, go_sem, *]) rfl ⟨rfl, ?_⟩
  repeat (with_reducible first | exact Below.refl _ _ | assumption | refine Below.drew ?_ | refine bl_drewN ?_ _ | refine Below.setCell ?_ (by first | omega | (simp; done) | (simp; omega)) _ | refine Below.alloc ?_ (by first | omega | (simp; done) | (simp; omega)) _ | refine bl_next ?_ (by assumption) | refine bl_trans ?_ (by assumption) (by first | omega | (simp; done) | (simp; omega)))

set_option maxHeartbeats 2000000 in
theorem around_t_w (X1 X2 X3 X4 rad u v p q l t i : Nat)
    (e1 : ∀ w, Calls Tryz.prog 150 #[.agg #[.float .f64 X1, .float .f64 X2]] w fun e w' => e = .returned (.bool false) ∧ Below w.heap.size w w')
    (e2 : ∀ w, Calls Tryz.prog 150 #[.agg #[.float .f64 X3, .float .f64 X4]] w fun e w' => e = .returned (.bool false) ∧ Below w.heap.size w w')
    (m1 : ∀ w, Calls Tryz.prog 151 #[.agg #[.float .f64 X1, .float .f64 X2]] w fun e w' => e = .returned (.float .f64 u) ∧ Below w.heap.size w w')
    (m2 : ∀ w, Calls Tryz.prog 151 #[.agg #[.float .f64 X3, .float .f64 X4]] w fun e w' => e = .returned (.float .f64 v) ∧ Below w.heap.size w w')
    (r1 : ∀ w, Calls Tryz.prog 154 #[.agg #[.float .f64 X1, .float .f64 X2], .float .f64 u] w fun e w' => e = .returned (.float .f64 p) ∧ Below w.heap.size w w')
    (r2 : ∀ w, Calls Tryz.prog 154 #[.agg #[.float .f64 X3, .float .f64 X4], .float .f64 v] w fun e w' => e = .returned (.float .f64 q) ∧ Below w.heap.size w w')
    (le : ∀ w, Calls Tryz.prog 153 #[.float .f64 p, .float .f64 q] w fun e w' => e = .returned (.float .f64 l) ∧ Below w.heap.size w w')
    (ua : ∀ w, Calls Tryz.prog 152 #[.float .f64 l, .float .f64 rad] w fun e w' => e = .returned (.float .f64 t) ∧ Below w.heap.size w w')
    (fi : ∀ w, Calls Tryz.prog 60 #[.float .f64 t, .int .i64 1] w fun e w' => e = .returned (.bool true) ∧ w' = w)
    (ad : ∀ w, Calls Tryz.prog 135 #[] w fun e w' => e = .returned (.agg #[.complex .f64 0 0, .float .f64 i]) ∧ Below w.heap.size w w') (w : World) :
    Calls Tryz.prog 123 #[.agg #[.float .f64 X1, .float .f64 X2, .float .f64 X3, .float .f64 X4], .float .f64 rad] w fun e w' => e = .returned (.agg #[.complex .f64 0 0, .float .f64 i]) ∧ Below w.heap.size w w' := by
  go_enter Tryz.func123, Tryz.ntmps123
  go_wp2_with fail
  obtain ⟨w0, hw0⟩ : ∃ v, v = ((w.alloc (.cells #[.float .f64 X1, .float .f64 X2, .float .f64 X3, .float .f64 X4] 39)).alloc (.cells #[.complex .f64 0 0, .float .f64 0] 42)) := ⟨_, rfl⟩
  rw [← hw0]
  have c00 : w0.cell? ⟨w.heap.size, 0, none⟩ = some (.float .f64 X1) := by simp [hw0, go_sem]
  have c01 : w0.cell? ⟨w.heap.size, 1, none⟩ = some (.float .f64 X2) := by simp [hw0, go_sem]
  have c02 : w0.cell? ⟨w.heap.size, 2, none⟩ = some (.float .f64 X3) := by simp [hw0, go_sem]
  have c03 : w0.cell? ⟨w.heap.size, 3, none⟩ = some (.float .f64 X4) := by simp [hw0, go_sem]
  have c10 : w0.cell? ⟨w.heap.size + 1, 0, none⟩ = some (.complex .f64 0 0) := by simp [hw0, go_sem]
  have fc10 : w0.frozen? ⟨w.heap.size + 1, 0, none⟩ = false := by simp [hw0, go_sem]
  have c11 : w0.cell? ⟨w.heap.size + 1, 1, none⟩ = some (.float .f64 0) := by simp [hw0, go_sem]
  have fc11 : w0.frozen? ⟨w.heap.size + 1, 1, none⟩ = false := by simp [hw0, go_sem]
  have s0 : w.heap.size + 1 + 1 ≤ w0.heap.size := by simp [hw0]
  have hB0 : Below w.heap.size w w0 := by
    rw [hw0]
    repeat (with_reducible first | exact Below.refl _ _ | assumption | refine Below.drew ?_ | refine bl_drewN ?_ _ | refine Below.setCell ?_ (by first | omega | (simp; done) | (simp; omega)) _ | refine Below.alloc ?_ (by first | omega | (simp; done) | (simp; omega)) _ | refine bl_next ?_ (by assumption) | refine bl_trans ?_ (by assumption) (by first | omega | (simp; done) | (simp; omega)))
  clear hw0
  go_at_call 150
  refine (e1 _).mono ?_
  rintro e w1 ⟨rfl, hb1⟩
  have s1 := hb1.size
  try simp at s1
  replace fc10 := bfroz2 hb1 c10 fc10
  replace fc11 := bfroz2 hb1 c11 fc11
  replace c00 := bkeep2 hb1 c00
  replace c01 := bkeep2 hb1 c01
  replace c02 := bkeep2 hb1 c02
  replace c03 := bkeep2 hb1 c03
  replace c10 := bkeep2 hb1 c10
  replace c11 := bkeep2 hb1 c11
  have l0 : w.heap.size < w1.heap.size := cell_lt c00
  have l1 : w.heap.size + 1 < w1.heap.size := cell_lt c10
  go_wp2_with fail
  go_at_call 150
  refine (e2 _).mono ?_
  rintro e w2 ⟨rfl, hb2⟩
  have s2 := hb2.size
  try simp at s2
  replace fc10 := bfroz2 hb2 c10 fc10
  replace fc11 := bfroz2 hb2 c11 fc11
  replace c00 := bkeep2 hb2 c00
  replace c01 := bkeep2 hb2 c01
  replace c02 := bkeep2 hb2 c02
  replace c03 := bkeep2 hb2 c03
  replace c10 := bkeep2 hb2 c10
  replace c11 := bkeep2 hb2 c11
  have l0 : w.heap.size < w2.heap.size := cell_lt c00
  have l1 : w.heap.size + 1 < w2.heap.size := cell_lt c10
  go_wp2_with fail
  go_region_held3 (fun w' => w'.cell? ⟨w.heap.size, 0, none⟩ = some (.float .f64 X1) ∧ w'.cell? ⟨w.heap.size, 1, none⟩ = some (.float .f64 X2) ∧ w'.cell? ⟨w.heap.size, 2, none⟩ = some (.float .f64 X3) ∧ w'.cell? ⟨w.heap.size, 3, none⟩ = some (.float .f64 X4)) (((try dsimp only); (try go_split_ands); (repeat' apply And.intro) <;> first | (with_reducible assumption) | (rw [set_other (by first | omega | (simp; done) | (simp; omega)), set_other (by first | omega | (simp; done) | (simp; omega))]; (with_reducible assumption)) | (with_reducible refine bkeep2 hb ?_; first | (with_reducible assumption) | (simp [*]; done)) | go_keep)) (first | (go_at_call 151; with_reducible refine (m1 _).mono ?_; rintro e w' ⟨rfl, hb⟩; have z0 := bkeep2 hb (p := ⟨w.heap.size + 1, 0, none⟩) (v := .complex .f64 0 0) (by first | (with_reducible assumption) | simp [*]); have y0 := bfroz2 hb (p := ⟨w.heap.size + 1, 0, none⟩) (v := .complex .f64 0 0) (by first | (with_reducible assumption) | simp [*]) (by first | (with_reducible assumption) | simp [*]); have z1 := bkeep2 hb (p := ⟨w.heap.size + 1, 1, none⟩) (v := .float .f64 0) (by first | (with_reducible assumption) | simp [*]); have y1 := bfroz2 hb (p := ⟨w.heap.size + 1, 1, none⟩) (v := .float .f64 0) (by first | (with_reducible assumption) | simp [*]) (by first | (with_reducible assumption) | simp [*])) | (go_at_call 151; with_reducible refine (m2 _).mono ?_; rintro e w' ⟨rfl, hb⟩; have z0 := bkeep2 hb (p := ⟨w.heap.size + 1, 0, none⟩) (v := .complex .f64 0 0) (by first | (with_reducible assumption) | simp [*]); have y0 := bfroz2 hb (p := ⟨w.heap.size + 1, 0, none⟩) (v := .complex .f64 0 0) (by first | (with_reducible assumption) | simp [*]) (by first | (with_reducible assumption) | simp [*]); have z1 := bkeep2 hb (p := ⟨w.heap.size + 1, 1, none⟩) (v := .float .f64 0) (by first | (with_reducible assumption) | simp [*]); have y1 := bfroz2 hb (p := ⟨w.heap.size + 1, 1, none⟩) (v := .float .f64 0) (by first | (with_reducible assumption) | simp [*]) (by first | (with_reducible assumption) | simp [*])))
  go_wp2_with fail
  go_region_held3 (fun w' => w'.cell? ⟨w.heap.size, 0, none⟩ = some (.float .f64 X1) ∧ w'.cell? ⟨w.heap.size, 1, none⟩ = some (.float .f64 X2) ∧ w'.cell? ⟨w.heap.size, 2, none⟩ = some (.float .f64 X3) ∧ w'.cell? ⟨w.heap.size, 3, none⟩ = some (.float .f64 X4)) (((try dsimp only); (try go_split_ands); (repeat' apply And.intro) <;> first | (with_reducible assumption) | (rw [set_other (by first | omega | (simp; done) | (simp; omega)), set_other (by first | omega | (simp; done) | (simp; omega))]; (with_reducible assumption)) | (with_reducible refine bkeep2 hb ?_; first | (with_reducible assumption) | (simp [*]; done)) | go_keep)) (first | (go_at_call 154; with_reducible refine (r1 _).mono ?_; rintro e w' ⟨rfl, hb⟩; have z0 := bkeep2 hb (p := ⟨w.heap.size + 1, 0, none⟩) (v := .complex .f64 0 0) (by first | (with_reducible assumption) | simp [*]); have y0 := bfroz2 hb (p := ⟨w.heap.size + 1, 0, none⟩) (v := .complex .f64 0 0) (by first | (with_reducible assumption) | simp [*]) (by first | (with_reducible assumption) | simp [*]); have z1 := bkeep2 hb (p := ⟨w.heap.size + 1, 1, none⟩) (v := .float .f64 0) (by first | (with_reducible assumption) | simp [*]); have y1 := bfroz2 hb (p := ⟨w.heap.size + 1, 1, none⟩) (v := .float .f64 0) (by first | (with_reducible assumption) | simp [*]) (by first | (with_reducible assumption) | simp [*])) | (go_at_call 154; with_reducible refine (r2 _).mono ?_; rintro e w' ⟨rfl, hb⟩; have z0 := bkeep2 hb (p := ⟨w.heap.size + 1, 0, none⟩) (v := .complex .f64 0 0) (by first | (with_reducible assumption) | simp [*]); have y0 := bfroz2 hb (p := ⟨w.heap.size + 1, 0, none⟩) (v := .complex .f64 0 0) (by first | (with_reducible assumption) | simp [*]) (by first | (with_reducible assumption) | simp [*]); have z1 := bkeep2 hb (p := ⟨w.heap.size + 1, 1, none⟩) (v := .float .f64 0) (by first | (with_reducible assumption) | simp [*]); have y1 := bfroz2 hb (p := ⟨w.heap.size + 1, 1, none⟩) (v := .float .f64 0) (by first | (with_reducible assumption) | simp [*]) (by first | (with_reducible assumption) | simp [*])) | (go_at_call 153; with_reducible refine (le _).mono ?_; rintro e w' ⟨rfl, hb⟩; have z0 := bkeep2 hb (p := ⟨w.heap.size + 1, 0, none⟩) (v := .complex .f64 0 0) (by first | (with_reducible assumption) | simp [*]); have y0 := bfroz2 hb (p := ⟨w.heap.size + 1, 0, none⟩) (v := .complex .f64 0 0) (by first | (with_reducible assumption) | simp [*]) (by first | (with_reducible assumption) | simp [*]); have z1 := bkeep2 hb (p := ⟨w.heap.size + 1, 1, none⟩) (v := .float .f64 0) (by first | (with_reducible assumption) | simp [*]); have y1 := bfroz2 hb (p := ⟨w.heap.size + 1, 1, none⟩) (v := .float .f64 0) (by first | (with_reducible assumption) | simp [*]) (by first | (with_reducible assumption) | simp [*])) | (go_at_call 152; with_reducible refine (ua _).mono ?_; rintro e w' ⟨rfl, hb⟩; have z0 := bkeep2 hb (p := ⟨w.heap.size + 1, 0, none⟩) (v := .complex .f64 0 0) (by first | (with_reducible assumption) | simp [*]); have y0 := bfroz2 hb (p := ⟨w.heap.size + 1, 0, none⟩) (v := .complex .f64 0 0) (by first | (with_reducible assumption) | simp [*]) (by first | (with_reducible assumption) | simp [*]); have z1 := bkeep2 hb (p := ⟨w.heap.size + 1, 1, none⟩) (v := .float .f64 0) (by first | (with_reducible assumption) | simp [*]); have y1 := bfroz2 hb (p := ⟨w.heap.size + 1, 1, none⟩) (v := .float .f64 0) (by first | (with_reducible assumption) | simp [*]) (by first | (with_reducible assumption) | simp [*])))
  go_wp2_with fail
  go_at_call 60
  refine (fi _).mono ?_
  rintro e w' ⟨rfl, rfl⟩
  go_wp2_with fail
  go_at_call 135
  refine (ad _).mono ?_
  rintro e w3 ⟨rfl, hb3⟩
  have x300 := bkeep2 hb3 (p := ⟨w.heap.size + 1, 0, none⟩) (v := .complex .f64 0 0) (by first | (with_reducible assumption) | simp [*])
  have y300 := bfroz2 hb3 (p := ⟨w.heap.size + 1, 0, none⟩) (v := .complex .f64 0 0) (by first | (with_reducible assumption) | simp [*]) (by first | (with_reducible assumption) | simp [*])
  have x301 := bkeep2 hb3 (p := ⟨w.heap.size + 1, 1, none⟩) (v := .float .f64 0) (by first | (with_reducible assumption) | simp [*])
  have y301 := bfroz2 hb3 (p := ⟨w.heap.size + 1, 1, none⟩) (v := .float .f64 0) (by first | (with_reducible assumption) | simp [*]) (by first | (with_reducible assumption) | simp [*])
  go_wp2_with fail
  refine bodyPost_ret (v := .agg #[.complex .f64 0 0, .float .f64 i]) (by simp [results, Tryz.results123, go_sem, *]) rfl ⟨rfl, ?_⟩
  repeat (with_reducible first | exact Below.refl _ _ | assumption | refine Below.drew ?_ | refine bl_drewN ?_ _ | refine Below.setCell ?_ (by first | omega | (simp; done) | (simp; omega)) _ | refine Below.alloc ?_ (by first | omega | (simp; done) | (simp; omega)) _ | refine bl_next ?_ (by assumption) | refine bl_trans ?_ (by assumption) (by first | omega | (simp; done) | (simp; omega)))

set_option maxHeartbeats 2000000 in
theorem around_f_w (X1 X2 X3 X4 rad u v p q l t : Nat)
    (e1 : ∀ w, Calls Tryz.prog 150 #[.agg #[.float .f64 X1, .float .f64 X2]] w fun e w' => e = .returned (.bool false) ∧ Below w.heap.size w w')
    (e2 : ∀ w, Calls Tryz.prog 150 #[.agg #[.float .f64 X3, .float .f64 X4]] w fun e w' => e = .returned (.bool false) ∧ Below w.heap.size w w')
    (m1 : ∀ w, Calls Tryz.prog 151 #[.agg #[.float .f64 X1, .float .f64 X2]] w fun e w' => e = .returned (.float .f64 u) ∧ Below w.heap.size w w')
    (m2 : ∀ w, Calls Tryz.prog 151 #[.agg #[.float .f64 X3, .float .f64 X4]] w fun e w' => e = .returned (.float .f64 v) ∧ Below w.heap.size w w')
    (r1 : ∀ w, Calls Tryz.prog 154 #[.agg #[.float .f64 X1, .float .f64 X2], .float .f64 u] w fun e w' => e = .returned (.float .f64 p) ∧ Below w.heap.size w w')
    (r2 : ∀ w, Calls Tryz.prog 154 #[.agg #[.float .f64 X3, .float .f64 X4], .float .f64 v] w fun e w' => e = .returned (.float .f64 q) ∧ Below w.heap.size w w')
    (le : ∀ w, Calls Tryz.prog 153 #[.float .f64 p, .float .f64 q] w fun e w' => e = .returned (.float .f64 l) ∧ Below w.heap.size w w')
    (ua : ∀ w, Calls Tryz.prog 152 #[.float .f64 l, .float .f64 rad] w fun e w' => e = .returned (.float .f64 t) ∧ Below w.heap.size w w')
    (fi : ∀ w, Calls Tryz.prog 60 #[.float .f64 t, .int .i64 1] w fun e w' => e = .returned (.bool false) ∧ w' = w) (w : World) :
    Calls Tryz.prog 123 #[.agg #[.float .f64 X1, .float .f64 X2, .float .f64 X3, .float .f64 X4], .float .f64 rad] w fun e w' => e = .returned (.agg #[.complex .f64 u v, .float .f64 t]) ∧ Below w.heap.size w w' := by
  go_enter Tryz.func123, Tryz.ntmps123
  go_wp2_with fail
  obtain ⟨w0, hw0⟩ : ∃ v, v = ((w.alloc (.cells #[.float .f64 X1, .float .f64 X2, .float .f64 X3, .float .f64 X4] 39)).alloc (.cells #[.complex .f64 0 0, .float .f64 0] 42)) := ⟨_, rfl⟩
  rw [← hw0]
  have c00 : w0.cell? ⟨w.heap.size, 0, none⟩ = some (.float .f64 X1) := by simp [hw0, go_sem]
  have c01 : w0.cell? ⟨w.heap.size, 1, none⟩ = some (.float .f64 X2) := by simp [hw0, go_sem]
  have c02 : w0.cell? ⟨w.heap.size, 2, none⟩ = some (.float .f64 X3) := by simp [hw0, go_sem]
  have c03 : w0.cell? ⟨w.heap.size, 3, none⟩ = some (.float .f64 X4) := by simp [hw0, go_sem]
  have c10 : w0.cell? ⟨w.heap.size + 1, 0, none⟩ = some (.complex .f64 0 0) := by simp [hw0, go_sem]
  have fc10 : w0.frozen? ⟨w.heap.size + 1, 0, none⟩ = false := by simp [hw0, go_sem]
  have c11 : w0.cell? ⟨w.heap.size + 1, 1, none⟩ = some (.float .f64 0) := by simp [hw0, go_sem]
  have fc11 : w0.frozen? ⟨w.heap.size + 1, 1, none⟩ = false := by simp [hw0, go_sem]
  have s0 : w.heap.size + 1 + 1 ≤ w0.heap.size := by simp [hw0]
  have hB0 : Below w.heap.size w w0 := by
    rw [hw0]
    repeat (with_reducible first | exact Below.refl _ _ | assumption | refine Below.drew ?_ | refine bl_drewN ?_ _ | refine Below.setCell ?_ (by first | omega | (simp; done) | (simp; omega)) _ | refine Below.alloc ?_ (by first | omega | (simp; done) | (simp; omega)) _ | refine bl_next ?_ (by assumption) | refine bl_trans ?_ (by assumption) (by first | omega | (simp; done) | (simp; omega)))
  clear hw0
  go_at_call 150
  refine (e1 _).mono ?_
  rintro e w1 ⟨rfl, hb1⟩
  have s1 := hb1.size
  try simp at s1
  replace fc10 := bfroz2 hb1 c10 fc10
  replace fc11 := bfroz2 hb1 c11 fc11
  replace c00 := bkeep2 hb1 c00
  replace c01 := bkeep2 hb1 c01
  replace c02 := bkeep2 hb1 c02
  replace c03 := bkeep2 hb1 c03
  replace c10 := bkeep2 hb1 c10
  replace c11 := bkeep2 hb1 c11
  have l0 : w.heap.size < w1.heap.size := cell_lt c00
  have l1 : w.heap.size + 1 < w1.heap.size := cell_lt c10
  go_wp2_with fail
  go_at_call 150
  refine (e2 _).mono ?_
  rintro e w2 ⟨rfl, hb2⟩
  have s2 := hb2.size
  try simp at s2
  replace fc10 := bfroz2 hb2 c10 fc10
  replace fc11 := bfroz2 hb2 c11 fc11
  replace c00 := bkeep2 hb2 c00
  replace c01 := bkeep2 hb2 c01
  replace c02 := bkeep2 hb2 c02
  replace c03 := bkeep2 hb2 c03
  replace c10 := bkeep2 hb2 c10
  replace c11 := bkeep2 hb2 c11
  have l0 : w.heap.size < w2.heap.size := cell_lt c00
  have l1 : w.heap.size + 1 < w2.heap.size := cell_lt c10
  go_wp2_with fail
  go_region_held3 (fun w' => w'.cell? ⟨w.heap.size, 0, none⟩ = some (.float .f64 X1) ∧ w'.cell? ⟨w.heap.size, 1, none⟩ = some (.float .f64 X2) ∧ w'.cell? ⟨w.heap.size, 2, none⟩ = some (.float .f64 X3) ∧ w'.cell? ⟨w.heap.size, 3, none⟩ = some (.float .f64 X4)) (((try dsimp only); (try go_split_ands); (repeat' apply And.intro) <;> first | (with_reducible assumption) | (rw [set_other (by first | omega | (simp; done) | (simp; omega)), set_other (by first | omega | (simp; done) | (simp; omega))]; (with_reducible assumption)) | (with_reducible refine bkeep2 hb ?_; first | (with_reducible assumption) | (simp [*]; done)) | go_keep)) (first | (go_at_call 151; with_reducible refine (m1 _).mono ?_; rintro e w' ⟨rfl, hb⟩; have z0 := bkeep2 hb (p := ⟨w.heap.size + 1, 0, none⟩) (v := .complex .f64 0 0) (by first | (with_reducible assumption) | simp [*]); have y0 := bfroz2 hb (p := ⟨w.heap.size + 1, 0, none⟩) (v := .complex .f64 0 0) (by first | (with_reducible assumption) | simp [*]) (by first | (with_reducible assumption) | simp [*]); have z1 := bkeep2 hb (p := ⟨w.heap.size + 1, 1, none⟩) (v := .float .f64 0) (by first | (with_reducible assumption) | simp [*]); have y1 := bfroz2 hb (p := ⟨w.heap.size + 1, 1, none⟩) (v := .float .f64 0) (by first | (with_reducible assumption) | simp [*]) (by first | (with_reducible assumption) | simp [*])) | (go_at_call 151; with_reducible refine (m2 _).mono ?_; rintro e w' ⟨rfl, hb⟩; have z0 := bkeep2 hb (p := ⟨w.heap.size + 1, 0, none⟩) (v := .complex .f64 0 0) (by first | (with_reducible assumption) | simp [*]); have y0 := bfroz2 hb (p := ⟨w.heap.size + 1, 0, none⟩) (v := .complex .f64 0 0) (by first | (with_reducible assumption) | simp [*]) (by first | (with_reducible assumption) | simp [*]); have z1 := bkeep2 hb (p := ⟨w.heap.size + 1, 1, none⟩) (v := .float .f64 0) (by first | (with_reducible assumption) | simp [*]); have y1 := bfroz2 hb (p := ⟨w.heap.size + 1, 1, none⟩) (v := .float .f64 0) (by first | (with_reducible assumption) | simp [*]) (by first | (with_reducible assumption) | simp [*])))
  go_wp2_with fail
  go_region_held3 (fun w' => w'.cell? ⟨w.heap.size, 0, none⟩ = some (.float .f64 X1) ∧ w'.cell? ⟨w.heap.size, 1, none⟩ = some (.float .f64 X2) ∧ w'.cell? ⟨w.heap.size, 2, none⟩ = some (.float .f64 X3) ∧ w'.cell? ⟨w.heap.size, 3, none⟩ = some (.float .f64 X4)) (((try dsimp only); (try go_split_ands); (repeat' apply And.intro) <;> first | (with_reducible assumption) | (rw [set_other (by first | omega | (simp; done) | (simp; omega)), set_other (by first | omega | (simp; done) | (simp; omega))]; (with_reducible assumption)) | (with_reducible refine bkeep2 hb ?_; first | (with_reducible assumption) | (simp [*]; done)) | go_keep)) (first | (go_at_call 154; with_reducible refine (r1 _).mono ?_; rintro e w' ⟨rfl, hb⟩; have z0 := bkeep2 hb (p := ⟨w.heap.size + 1, 0, none⟩) (v := .complex .f64 0 0) (by first | (with_reducible assumption) | simp [*]); have y0 := bfroz2 hb (p := ⟨w.heap.size + 1, 0, none⟩) (v := .complex .f64 0 0) (by first | (with_reducible assumption) | simp [*]) (by first | (with_reducible assumption) | simp [*]); have z1 := bkeep2 hb (p := ⟨w.heap.size + 1, 1, none⟩) (v := .float .f64 0) (by first | (with_reducible assumption) | simp [*]); have y1 := bfroz2 hb (p := ⟨w.heap.size + 1, 1, none⟩) (v := .float .f64 0) (by first | (with_reducible assumption) | simp [*]) (by first | (with_reducible assumption) | simp [*])) | (go_at_call 154; with_reducible refine (r2 _).mono ?_; rintro e w' ⟨rfl, hb⟩; have z0 := bkeep2 hb (p := ⟨w.heap.size + 1, 0, none⟩) (v := .complex .f64 0 0) (by first | (with_reducible assumption) | simp [*]); have y0 := bfroz2 hb (p := ⟨w.heap.size + 1, 0, none⟩) (v := .complex .f64 0 0) (by first | (with_reducible assumption) | simp [*]) (by first | (with_reducible assumption) | simp [*]); have z1 := bkeep2 hb (p := ⟨w.heap.size + 1, 1, none⟩) (v := .float .f64 0) (by first | (with_reducible assumption) | simp [*]); have y1 := bfroz2 hb (p := ⟨w.heap.size + 1, 1, none⟩) (v := .float .f64 0) (by first | (with_reducible assumption) | simp [*]) (by first | (with_reducible assumption) | simp [*])) | (go_at_call 153; with_reducible refine (le _).mono ?_; rintro e w' ⟨rfl, hb⟩; have z0 := bkeep2 hb (p := ⟨w.heap.size + 1, 0, none⟩) (v := .complex .f64 0 0) (by first | (with_reducible assumption) | simp [*]); have y0 := bfroz2 hb (p := ⟨w.heap.size + 1, 0, none⟩) (v := .complex .f64 0 0) (by first | (with_reducible assumption) | simp [*]) (by first | (with_reducible assumption) | simp [*]); have z1 := bkeep2 hb (p := ⟨w.heap.size + 1, 1, none⟩) (v := .float .f64 0) (by first | (with_reducible assumption) | simp [*]); have y1 := bfroz2 hb (p := ⟨w.heap.size + 1, 1, none⟩) (v := .float .f64 0) (by first | (with_reducible assumption) | simp [*]) (by first | (with_reducible assumption) | simp [*])) | (go_at_call 152; with_reducible refine (ua _).mono ?_; rintro e w' ⟨rfl, hb⟩; have z0 := bkeep2 hb (p := ⟨w.heap.size + 1, 0, none⟩) (v := .complex .f64 0 0) (by first | (with_reducible assumption) | simp [*]); have y0 := bfroz2 hb (p := ⟨w.heap.size + 1, 0, none⟩) (v := .complex .f64 0 0) (by first | (with_reducible assumption) | simp [*]) (by first | (with_reducible assumption) | simp [*]); have z1 := bkeep2 hb (p := ⟨w.heap.size + 1, 1, none⟩) (v := .float .f64 0) (by first | (with_reducible assumption) | simp [*]); have y1 := bfroz2 hb (p := ⟨w.heap.size + 1, 1, none⟩) (v := .float .f64 0) (by first | (with_reducible assumption) | simp [*]) (by first | (with_reducible assumption) | simp [*])))
  go_wp2_with fail
  go_at_call 60
  refine (fi _).mono ?_
  rintro e w' ⟨rfl, rfl⟩
  go_wp2_with fail
  refine bodyPost_ret (v := .agg #[.complex .f64 u v, .float .f64 t]) (by simp [results, Tryz.results123, go_sem, *]) rfl ⟨rfl, ?_⟩
  repeat (with_reducible first | exact Below.refl _ _ | assumption | refine Below.drew ?_ | refine bl_drewN ?_ _ | refine Below.setCell ?_ (by first | omega | (simp; done) | (simp; omega)) _ | refine Below.alloc ?_ (by first | omega | (simp; done) | (simp; omega)) _ | refine bl_next ?_ (by assumption) | refine bl_trans ?_ (by assumption) (by first | omega | (simp; done) | (simp; omega)))

set_option maxHeartbeats 1000000 in
theorem radOfSums_w (a b r c d s t : Nat)
    (u1 : ∀ w, Calls Tryz.prog 152 #[.float .f64 r, .float .f64 s] w fun e w' => e = .returned (.float .f64 t) ∧ Below w.heap.size w w') (w : World) :
    Calls Tryz.prog 125 #[.agg #[.complex .f64 a b, .float .f64 r], .agg #[.complex .f64 c d, .float .f64 s]] w fun e w' => e = .returned (.float .f64 t) ∧ Below w.heap.size w w' := by
  go_enter Tryz.func125, Tryz.ntmps125
  go_wp2_with fail
  obtain ⟨w0, hw0⟩ : ∃ v, v = ((w.alloc (.cells #[.complex .f64 a b, .float .f64 r] 42)).alloc (.cells #[.complex .f64 c d, .float .f64 s] 42)) := ⟨_, rfl⟩
  rw [← hw0]
  have c00 : w0.cell? ⟨w.heap.size, 0, none⟩ = some (.complex .f64 a b) := by simp [hw0, go_sem]
  have c01 : w0.cell? ⟨w.heap.size, 1, none⟩ = some (.float .f64 r) := by simp [hw0, go_sem]
  have c10 : w0.cell? ⟨w.heap.size + 1, 0, none⟩ = some (.complex .f64 c d) := by simp [hw0, go_sem]
  have c11 : w0.cell? ⟨w.heap.size + 1, 1, none⟩ = some (.float .f64 s) := by simp [hw0, go_sem]
  have s0 : w.heap.size + 1 + 1 ≤ w0.heap.size := by simp [hw0]
  have hB0 : Below w.heap.size w w0 := by
    rw [hw0]
    repeat (with_reducible first | exact Below.refl _ _ | assumption | refine Below.drew ?_ | refine bl_drewN ?_ _ | refine Below.setCell ?_ (by first | omega | (simp; done) | (simp; omega)) _ | refine Below.alloc ?_ (by first | omega | (simp; done) | (simp; omega)) _ | refine bl_next ?_ (by assumption) | refine bl_trans ?_ (by assumption) (by first | omega | (simp; done) | (simp; omega)))
  clear hw0
  go_at_call 152
  refine (u1 _).mono ?_
  rintro e w1 ⟨rfl, hb1⟩
  have s1 := hb1.size
  try simp at s1
  replace c00 := bkeep2 hb1 c00
  replace c01 := bkeep2 hb1 c01
  replace c10 := bkeep2 hb1 c10
  replace c11 := bkeep2 hb1 c11
  have l0 : w.heap.size < w1.heap.size := cell_lt c00
  have l1 : w.heap.size + 1 < w1.heap.size := cell_lt c10
  go_wp2_with fail
  go_ret
  refine ⟨rfl, ?_⟩
  repeat (with_reducible first | exact Below.refl _ _ | assumption | refine Below.drew ?_ | refine bl_drewN ?_ _ | refine Below.setCell ?_ (by first | omega | (simp; done) | (simp; omega)) _ | refine Below.alloc ?_ (by first | omega | (simp; done) | (simp; omega)) _ | refine bl_next ?_ (by assumption) | refine bl_trans ?_ (by assumption) (by first | omega | (simp; done) | (simp; omega)))

set_option maxHeartbeats 2000000 in
theorem radOfProducts_w (a b r c d s l m p q u v t : Nat)
    (l1 : ∀ w, Calls Tryz.prog 153 #[.float .f64 a, .float .f64 b] w fun e w' => e = .returned (.float .f64 l) ∧ Below w.heap.size w w')
    (m1 : ∀ w, Calls Tryz.prog 155 #[.float .f64 l, .float .f64 s] w fun e w' => e = .returned (.float .f64 p) ∧ Below w.heap.size w w')
    (l2 : ∀ w, Calls Tryz.prog 153 #[.float .f64 c, .float .f64 d] w fun e w' => e = .returned (.float .f64 m) ∧ Below w.heap.size w w')
    (m2 : ∀ w, Calls Tryz.prog 155 #[.float .f64 m, .float .f64 r] w fun e w' => e = .returned (.float .f64 q) ∧ Below w.heap.size w w')
    (u1 : ∀ w, Calls Tryz.prog 152 #[.float .f64 p, .float .f64 q] w fun e w' => e = .returned (.float .f64 u) ∧ Below w.heap.size w w')
    (m3 : ∀ w, Calls Tryz.prog 155 #[.float .f64 r, .float .f64 s] w fun e w' => e = .returned (.float .f64 v) ∧ Below w.heap.size w w')
    (u2 : ∀ w, Calls Tryz.prog 152 #[.float .f64 u, .float .f64 v] w fun e w' => e = .returned (.float .f64 t) ∧ Below w.heap.size w w') (w : World) :
    Calls Tryz.prog 126 #[.agg #[.complex .f64 a b, .float .f64 r], .agg #[.complex .f64 c d, .float .f64 s]] w fun e w' => e = .returned (.float .f64 t) ∧ Below w.heap.size w w' := by
  go_enter Tryz.func126, Tryz.ntmps126
  go_wp2_with fail
  obtain ⟨w0, hw0⟩ : ∃ v, v = ((w.alloc (.cells #[.complex .f64 a b, .float .f64 r] 42)).alloc (.cells #[.complex .f64 c d, .float .f64 s] 42)) := ⟨_, rfl⟩
  rw [← hw0]
  have c00 : w0.cell? ⟨w.heap.size, 0, none⟩ = some (.complex .f64 a b) := by simp [hw0, go_sem]
  have c01 : w0.cell? ⟨w.heap.size, 1, none⟩ = some (.float .f64 r) := by simp [hw0, go_sem]
  have c10 : w0.cell? ⟨w.heap.size + 1, 0, none⟩ = some (.complex .f64 c d) := by simp [hw0, go_sem]
  have c11 : w0.cell? ⟨w.heap.size + 1, 1, none⟩ = some (.float .f64 s) := by simp [hw0, go_sem]
  have s0 : w.heap.size + 1 + 1 ≤ w0.heap.size := by simp [hw0]
  have hB0 : Below w.heap.size w w0 := by
    rw [hw0]
    repeat (with_reducible first | exact Below.refl _ _ | assumption | refine Below.drew ?_ | refine bl_drewN ?_ _ | refine Below.setCell ?_ (by first | omega | (simp; done) | (simp; omega)) _ | refine Below.alloc ?_ (by first | omega | (simp; done) | (simp; omega)) _ | refine bl_next ?_ (by assumption) | refine bl_trans ?_ (by assumption) (by first | omega | (simp; done) | (simp; omega)))
  clear hw0
  go_region_held3 (fun w' => w'.cell? ⟨w.heap.size, 0, none⟩ = some (.complex .f64 a b) ∧ w'.cell? ⟨w.heap.size, 1, none⟩ = some (.float .f64 r) ∧ w'.cell? ⟨w.heap.size + 1, 0, none⟩ = some (.complex .f64 c d) ∧ w'.cell? ⟨w.heap.size + 1, 1, none⟩ = some (.float .f64 s)) (((try dsimp only); (try go_split_ands); (repeat' apply And.intro) <;> first | (with_reducible assumption) | (rw []; (with_reducible assumption)) | (with_reducible refine bkeep2 hb ?_; first | (with_reducible assumption) | (simp [*]; done)) | go_keep)) (first | (go_at_call 153; with_reducible refine (l1 _).mono ?_; rintro e w' ⟨rfl, hb⟩) | (go_at_call 155; with_reducible refine (m1 _).mono ?_; rintro e w' ⟨rfl, hb⟩))
  all_goals (go_wp2_with fail; go_region_held3 (fun w' => w'.cell? ⟨w.heap.size, 0, none⟩ = some (.complex .f64 a b) ∧ w'.cell? ⟨w.heap.size, 1, none⟩ = some (.float .f64 r) ∧ w'.cell? ⟨w.heap.size + 1, 0, none⟩ = some (.complex .f64 c d) ∧ w'.cell? ⟨w.heap.size + 1, 1, none⟩ = some (.float .f64 s)) (((try dsimp only); (try go_split_ands); (repeat' apply And.intro) <;> first | (with_reducible assumption) | (rw []; (with_reducible assumption)) | (with_reducible refine bkeep2 hb ?_; first | (with_reducible assumption) | (simp [*]; done)) | go_keep)) (first | (go_at_call 153; with_reducible refine (l2 _).mono ?_; rintro e w' ⟨rfl, hb⟩) | (go_at_call 155; with_reducible refine (m2 _).mono ?_; rintro e w' ⟨rfl, hb⟩)))
  all_goals (go_wp2_with fail; go_region_held3 (fun w' => w'.cell? ⟨w.heap.size, 0, none⟩ = some (.complex .f64 a b) ∧ w'.cell? ⟨w.heap.size, 1, none⟩ = some (.float .f64 r) ∧ w'.cell? ⟨w.heap.size + 1, 0, none⟩ = some (.complex .f64 c d) ∧ w'.cell? ⟨w.heap.size + 1, 1, none⟩ = some (.float .f64 s)) (((try dsimp only); (try go_split_ands); (repeat' apply And.intro) <;> first | (with_reducible assumption) | (rw []; (with_reducible assumption)) | (with_reducible refine bkeep2 hb ?_; first | (with_reducible assumption) | (simp [*]; done)) | go_keep)) (first | (go_at_call 152; with_reducible refine (u1 _).mono ?_; rintro e w' ⟨rfl, hb⟩) | (go_at_call 155; with_reducible refine (m3 _).mono ?_; rintro e w' ⟨rfl, hb⟩) | (go_at_call 152; with_reducible refine (u2 _).mono ?_; rintro e w' ⟨rfl, hb⟩)))
  all_goals (go_wp2_with fail; go_ret; refine ⟨rfl, ?_⟩; repeat (with_reducible first | exact Below.refl _ _ | assumption | refine Below.drew ?_ | refine bl_drewN ?_ _ | refine Below.setCell ?_ (by first | omega | (simp; done) | (simp; omega)) _ | refine Below.alloc ?_ (by first | omega | (simp; done) | (simp; omega)) _ | refine bl_next ?_ (by assumption) | refine bl_trans ?_ (by assumption) (by first | omega | (simp; done) | (simp; omega))))

end Go.Proofs.YtacnclofbnafiabGreatDoor

namespace Go.Proofs.YtacnclofbnafiabGreatDoor
open Go.RowKit Fl

set_option maxHeartbeats 1000000 in
theorem combine_n1_w (a b r c d s k1 k2 k3 : Nat) (g h : Value)
    (h1 : ∀ w, Calls Tryz.prog 111 #[.agg #[.complex .f64 a b, .float .f64 r]] w fun e w' => e = .returned (.bool true) ∧ Below w.heap.size w w')
    (nd : ∀ w, Calls Tryz.prog 122 #[] w fun e w' => e = .returned (.agg #[.complex .f64 k1 k2, .float .f64 k3]) ∧ Below w.heap.size w w') (w : World) :
    Calls Tryz.prog 124 #[.agg #[.complex .f64 a b, .float .f64 r], .agg #[.complex .f64 c d, .float .f64 s], g, h] w fun e w' => e = .returned (.agg #[.complex .f64 k1 k2, .float .f64 k3]) ∧ Below w.heap.size w w' := by
  go_enter Tryz.func124, Tryz.ntmps124
  go_wp2_with fail
  obtain ⟨w0, hw0⟩ : ∃ v, v = (((w.alloc (.cells #[.complex .f64 a b, .float .f64 r] 42)).alloc (.cells #[.complex .f64 c d, .float .f64 s] 42)).alloc (.cells #[.complex .f64 0 0, .float .f64 0] 42)) := ⟨_, rfl⟩
  rw [← hw0]
  have c00 : w0.cell? ⟨w.heap.size, 0, none⟩ = some (.complex .f64 a b) := by simp [hw0, go_sem]
  have c01 : w0.cell? ⟨w.heap.size, 1, none⟩ = some (.float .f64 r) := by simp [hw0, go_sem]
  have c10 : w0.cell? ⟨w.heap.size + 1, 0, none⟩ = some (.complex .f64 c d) := by simp [hw0, go_sem]
  have c11 : w0.cell? ⟨w.heap.size + 1, 1, none⟩ = some (.float .f64 s) := by simp [hw0, go_sem]
  have c20 : w0.cell? ⟨w.heap.size + 1 + 1, 0, none⟩ = some (.complex .f64 0 0) := by simp [hw0, go_sem]
  have fc20 : w0.frozen? ⟨w.heap.size + 1 + 1, 0, none⟩ = false := by simp [hw0, go_sem]
  have c21 : w0.cell? ⟨w.heap.size + 1 + 1, 1, none⟩ = some (.float .f64 0) := by simp [hw0, go_sem]
  have fc21 : w0.frozen? ⟨w.heap.size + 1 + 1, 1, none⟩ = false := by simp [hw0, go_sem]
  have s0 : w.heap.size + 1 + 1 + 1 ≤ w0.heap.size := by simp [hw0]
  have hB0 : Below w.heap.size w w0 := by
    rw [hw0]
    repeat (with_reducible first | exact Below.refl _ _ | assumption | refine Below.drew ?_ | refine bl_drewN ?_ _ | refine Below.setCell ?_ (by first | omega | (simp; done) | (simp; omega)) _ | refine Below.alloc ?_ (by first | omega | (simp; done) | (simp; omega)) _ | refine bl_next ?_ (by assumption) | refine bl_trans ?_ (by assumption) (by first | omega | (simp; done) | (simp; omega)))
  clear hw0
  go_at_call 111
  refine (h1 _).mono ?_
  rintro e w1 ⟨rfl, hb1⟩
  have s1 := hb1.size
  try simp at s1
  replace fc20 := bfroz2 hb1 c20 fc20
  replace fc21 := bfroz2 hb1 c21 fc21
  replace c00 := bkeep2 hb1 c00
  replace c01 := bkeep2 hb1 c01
  replace c10 := bkeep2 hb1 c10
  replace c11 := bkeep2 hb1 c11
  replace c20 := bkeep2 hb1 c20
  replace c21 := bkeep2 hb1 c21
  have l0 : w.heap.size < w1.heap.size := cell_lt c00
  have l1 : w.heap.size + 1 < w1.heap.size := cell_lt c10
  have l2 : w.heap.size + 1 + 1 < w1.heap.size := cell_lt c20
  go_wp2_with fail
  go_at_call 122
  refine (nd _).mono ?_
  rintro e w2 ⟨rfl, hb2⟩
  have s2 := hb2.size
  try simp at s2
  replace fc20 := bfroz2 hb2 c20 fc20
  replace fc21 := bfroz2 hb2 c21 fc21
  replace c00 := bkeep2 hb2 c00
  replace c01 := bkeep2 hb2 c01
  replace c10 := bkeep2 hb2 c10
  replace c11 := bkeep2 hb2 c11
  replace c20 := bkeep2 hb2 c20
  replace c21 := bkeep2 hb2 c21
  have l0 : w.heap.size < w2.heap.size := cell_lt c00
  have l1 : w.heap.size + 1 < w2.heap.size := cell_lt c10
  have l2 : w.heap.size + 1 + 1 < w2.heap.size := cell_lt c20
  go_wp2_with fail
  refine bodyPost_ret (v := .agg #[.complex .f64 k1 k2, .float .f64 k3]) (by simp [results, Tryz.results124, go_sem, *]) rfl ⟨rfl, ?_⟩
  repeat (with_reducible first | exact Below.refl _ _ | assumption | refine Below.drew ?_ | refine bl_drewN ?_ _ | refine Below.setCell ?_ (by first | omega | (simp; done) | (simp; omega)) _ | refine Below.alloc ?_ (by first | omega | (simp; done) | (simp; omega)) _ | refine bl_next ?_ (by assumption) | refine bl_trans ?_ (by assumption) (by first | omega | (simp; done) | (simp; omega)))

set_option maxHeartbeats 1000000 in
theorem combine_n2_w (a b r c d s k1 k2 k3 : Nat) (g h : Value)
    (h1 : ∀ w, Calls Tryz.prog 111 #[.agg #[.complex .f64 a b, .float .f64 r]] w fun e w' => e = .returned (.bool false) ∧ Below w.heap.size w w')
    (h2 : ∀ w, Calls Tryz.prog 111 #[.agg #[.complex .f64 c d, .float .f64 s]] w fun e w' => e = .returned (.bool true) ∧ Below w.heap.size w w')
    (nd : ∀ w, Calls Tryz.prog 122 #[] w fun e w' => e = .returned (.agg #[.complex .f64 k1 k2, .float .f64 k3]) ∧ Below w.heap.size w w') (w : World) :
    Calls Tryz.prog 124 #[.agg #[.complex .f64 a b, .float .f64 r], .agg #[.complex .f64 c d, .float .f64 s], g, h] w fun e w' => e = .returned (.agg #[.complex .f64 k1 k2, .float .f64 k3]) ∧ Below w.heap.size w w' := by
  go_enter Tryz.func124, Tryz.ntmps124
  go_wp2_with fail
  obtain ⟨w0, hw0⟩ : ∃ v, v = (((w.alloc (.cells #[.complex .f64 a b, .float .f64 r] 42)).alloc (.cells #[.complex .f64 c d, .float .f64 s] 42)).alloc (.cells #[.complex .f64 0 0, .float .f64 0] 42)) := ⟨_, rfl⟩
  rw [← hw0]
  have c00 : w0.cell? ⟨w.heap.size, 0, none⟩ = some (.complex .f64 a b) := by simp [hw0, go_sem]
  have c01 : w0.cell? ⟨w.heap.size, 1, none⟩ = some (.float .f64 r) := by simp [hw0, go_sem]
  have c10 : w0.cell? ⟨w.heap.size + 1, 0, none⟩ = some (.complex .f64 c d) := by simp [hw0, go_sem]
  have c11 : w0.cell? ⟨w.heap.size + 1, 1, none⟩ = some (.float .f64 s) := by simp [hw0, go_sem]
  have c20 : w0.cell? ⟨w.heap.size + 1 + 1, 0, none⟩ = some (.complex .f64 0 0) := by simp [hw0, go_sem]
  have fc20 : w0.frozen? ⟨w.heap.size + 1 + 1, 0, none⟩ = false := by simp [hw0, go_sem]
  have c21 : w0.cell? ⟨w.heap.size + 1 + 1, 1, none⟩ = some (.float .f64 0) := by simp [hw0, go_sem]
  have fc21 : w0.frozen? ⟨w.heap.size + 1 + 1, 1, none⟩ = false := by simp [hw0, go_sem]
  have s0 : w.heap.size + 1 + 1 + 1 ≤ w0.heap.size := by simp [hw0]
  have hB0 : Below w.heap.size w w0 := by
    rw [hw0]
    repeat (with_reducible first | exact Below.refl _ _ | assumption | refine Below.drew ?_ | refine bl_drewN ?_ _ | refine Below.setCell ?_ (by first | omega | (simp; done) | (simp; omega)) _ | refine Below.alloc ?_ (by first | omega | (simp; done) | (simp; omega)) _ | refine bl_next ?_ (by assumption) | refine bl_trans ?_ (by assumption) (by first | omega | (simp; done) | (simp; omega)))
  clear hw0
  go_at_call 111
  refine (h1 _).mono ?_
  rintro e w1 ⟨rfl, hb1⟩
  have s1 := hb1.size
  try simp at s1
  replace fc20 := bfroz2 hb1 c20 fc20
  replace fc21 := bfroz2 hb1 c21 fc21
  replace c00 := bkeep2 hb1 c00
  replace c01 := bkeep2 hb1 c01
  replace c10 := bkeep2 hb1 c10
  replace c11 := bkeep2 hb1 c11
  replace c20 := bkeep2 hb1 c20
  replace c21 := bkeep2 hb1 c21
  have l0 : w.heap.size < w1.heap.size := cell_lt c00
  have l1 : w.heap.size + 1 < w1.heap.size := cell_lt c10
  have l2 : w.heap.size + 1 + 1 < w1.heap.size := cell_lt c20
  go_wp2_with fail
  go_at_call 111
  refine (h2 _).mono ?_
  rintro e w2 ⟨rfl, hb2⟩
  have s2 := hb2.size
  try simp at s2
  replace fc20 := bfroz2 hb2 c20 fc20
  replace fc21 := bfroz2 hb2 c21 fc21
  replace c00 := bkeep2 hb2 c00
  replace c01 := bkeep2 hb2 c01
  replace c10 := bkeep2 hb2 c10
  replace c11 := bkeep2 hb2 c11
  replace c20 := bkeep2 hb2 c20
  replace c21 := bkeep2 hb2 c21
  have l0 : w.heap.size < w2.heap.size := cell_lt c00
  have l1 : w.heap.size + 1 < w2.heap.size := cell_lt c10
  have l2 : w.heap.size + 1 + 1 < w2.heap.size := cell_lt c20
  go_wp2_with fail
  go_at_call 122
  refine (nd _).mono ?_
  rintro e w3 ⟨rfl, hb3⟩
  have s3 := hb3.size
  try simp at s3
  replace fc20 := bfroz2 hb3 c20 fc20
  replace fc21 := bfroz2 hb3 c21 fc21
  replace c00 := bkeep2 hb3 c00
  replace c01 := bkeep2 hb3 c01
  replace c10 := bkeep2 hb3 c10
  replace c11 := bkeep2 hb3 c11
  replace c20 := bkeep2 hb3 c20
  replace c21 := bkeep2 hb3 c21
  have l0 : w.heap.size < w3.heap.size := cell_lt c00
  have l1 : w.heap.size + 1 < w3.heap.size := cell_lt c10
  have l2 : w.heap.size + 1 + 1 < w3.heap.size := cell_lt c20
  go_wp2_with fail
  refine bodyPost_ret (v := .agg #[.complex .f64 k1 k2, .float .f64 k3]) (by simp [results, Tryz.results124, go_sem, *]) rfl ⟨rfl, ?_⟩
  repeat (with_reducible first | exact Below.refl _ _ | assumption | refine Below.drew ?_ | refine bl_drewN ?_ _ | refine Below.setCell ?_ (by first | omega | (simp; done) | (simp; omega)) _ | refine Below.alloc ?_ (by first | omega | (simp; done) | (simp; omega)) _ | refine bl_next ?_ (by assumption) | refine bl_trans ?_ (by assumption) (by first | omega | (simp; done) | (simp; omega)))

set_option maxHeartbeats 1000000 in
theorem combine_a1_w (a b r c d s k1 k2 k3 : Nat) (g h : Value)
    (h1 : ∀ w, Calls Tryz.prog 111 #[.agg #[.complex .f64 a b, .float .f64 r]] w fun e w' => e = .returned (.bool false) ∧ Below w.heap.size w w')
    (h2 : ∀ w, Calls Tryz.prog 111 #[.agg #[.complex .f64 c d, .float .f64 s]] w fun e w' => e = .returned (.bool false) ∧ Below w.heap.size w w')
    (h3 : ∀ w, Calls Tryz.prog 113 #[.agg #[.complex .f64 a b, .float .f64 r]] w fun e w' => e = .returned (.bool true) ∧ Below w.heap.size w w')
    (ad : ∀ w, Calls Tryz.prog 135 #[] w fun e w' => e = .returned (.agg #[.complex .f64 k1 k2, .float .f64 k3]) ∧ Below w.heap.size w w') (w : World) :
    Calls Tryz.prog 124 #[.agg #[.complex .f64 a b, .float .f64 r], .agg #[.complex .f64 c d, .float .f64 s], g, h] w fun e w' => e = .returned (.agg #[.complex .f64 k1 k2, .float .f64 k3]) ∧ Below w.heap.size w w' := by
  go_enter Tryz.func124, Tryz.ntmps124
  go_wp2_with fail
  obtain ⟨w0, hw0⟩ : ∃ v, v = (((w.alloc (.cells #[.complex .f64 a b, .float .f64 r] 42)).alloc (.cells #[.complex .f64 c d, .float .f64 s] 42)).alloc (.cells #[.complex .f64 0 0, .float .f64 0] 42)) := ⟨_, rfl⟩
  rw [← hw0]
  have c00 : w0.cell? ⟨w.heap.size, 0, none⟩ = some (.complex .f64 a b) := by simp [hw0, go_sem]
  have c01 : w0.cell? ⟨w.heap.size, 1, none⟩ = some (.float .f64 r) := by simp [hw0, go_sem]
  have c10 : w0.cell? ⟨w.heap.size + 1, 0, none⟩ = some (.complex .f64 c d) := by simp [hw0, go_sem]
  have c11 : w0.cell? ⟨w.heap.size + 1, 1, none⟩ = some (.float .f64 s) := by simp [hw0, go_sem]
  have c20 : w0.cell? ⟨w.heap.size + 1 + 1, 0, none⟩ = some (.complex .f64 0 0) := by simp [hw0, go_sem]
  have fc20 : w0.frozen? ⟨w.heap.size + 1 + 1, 0, none⟩ = false := by simp [hw0, go_sem]
  have c21 : w0.cell? ⟨w.heap.size + 1 + 1, 1, none⟩ = some (.float .f64 0) := by simp [hw0, go_sem]
  have fc21 : w0.frozen? ⟨w.heap.size + 1 + 1, 1, none⟩ = false := by simp [hw0, go_sem]
  have s0 : w.heap.size + 1 + 1 + 1 ≤ w0.heap.size := by simp [hw0]
  have hB0 : Below w.heap.size w w0 := by
    rw [hw0]
    repeat (with_reducible first | exact Below.refl _ _ | assumption | refine Below.drew ?_ | refine bl_drewN ?_ _ | refine Below.setCell ?_ (by first | omega | (simp; done) | (simp; omega)) _ | refine Below.alloc ?_ (by first | omega | (simp; done) | (simp; omega)) _ | refine bl_next ?_ (by assumption) | refine bl_trans ?_ (by assumption) (by first | omega | (simp; done) | (simp; omega)))
  clear hw0
  go_at_call 111
  refine (h1 _).mono ?_
  rintro e w1 ⟨rfl, hb1⟩
  have s1 := hb1.size
  try simp at s1
  replace fc20 := bfroz2 hb1 c20 fc20
  replace fc21 := bfroz2 hb1 c21 fc21
  replace c00 := bkeep2 hb1 c00
  replace c01 := bkeep2 hb1 c01
  replace c10 := bkeep2 hb1 c10
  replace c11 := bkeep2 hb1 c11
  replace c20 := bkeep2 hb1 c20
  replace c21 := bkeep2 hb1 c21
  have l0 : w.heap.size < w1.heap.size := cell_lt c00
  have l1 : w.heap.size + 1 < w1.heap.size := cell_lt c10
  have l2 : w.heap.size + 1 + 1 < w1.heap.size := cell_lt c20
  go_wp2_with fail
  go_at_call 111
  refine (h2 _).mono ?_
  rintro e w2 ⟨rfl, hb2⟩
  have s2 := hb2.size
  try simp at s2
  replace fc20 := bfroz2 hb2 c20 fc20
  replace fc21 := bfroz2 hb2 c21 fc21
  replace c00 := bkeep2 hb2 c00
  replace c01 := bkeep2 hb2 c01
  replace c10 := bkeep2 hb2 c10
  replace c11 := bkeep2 hb2 c11
  replace c20 := bkeep2 hb2 c20
  replace c21 := bkeep2 hb2 c21
  have l0 : w.heap.size < w2.heap.size := cell_lt c00
  have l1 : w.heap.size + 1 < w2.heap.size := cell_lt c10
  have l2 : w.heap.size + 1 + 1 < w2.heap.size := cell_lt c20
  go_wp2_with fail
  go_at_call 113
  refine (h3 _).mono ?_
  rintro e w3 ⟨rfl, hb3⟩
  have s3 := hb3.size
  try simp at s3
  replace fc20 := bfroz2 hb3 c20 fc20
  replace fc21 := bfroz2 hb3 c21 fc21
  replace c00 := bkeep2 hb3 c00
  replace c01 := bkeep2 hb3 c01
  replace c10 := bkeep2 hb3 c10
  replace c11 := bkeep2 hb3 c11
  replace c20 := bkeep2 hb3 c20
  replace c21 := bkeep2 hb3 c21
  have l0 : w.heap.size < w3.heap.size := cell_lt c00
  have l1 : w.heap.size + 1 < w3.heap.size := cell_lt c10
  have l2 : w.heap.size + 1 + 1 < w3.heap.size := cell_lt c20
  go_wp2_with fail
  go_at_call 135
  refine (ad _).mono ?_
  rintro e w4 ⟨rfl, hb4⟩
  have s4 := hb4.size
  try simp at s4
  replace fc20 := bfroz2 hb4 c20 fc20
  replace fc21 := bfroz2 hb4 c21 fc21
  replace c00 := bkeep2 hb4 c00
  replace c01 := bkeep2 hb4 c01
  replace c10 := bkeep2 hb4 c10
  replace c11 := bkeep2 hb4 c11
  replace c20 := bkeep2 hb4 c20
  replace c21 := bkeep2 hb4 c21
  have l0 : w.heap.size < w4.heap.size := cell_lt c00
  have l1 : w.heap.size + 1 < w4.heap.size := cell_lt c10
  have l2 : w.heap.size + 1 + 1 < w4.heap.size := cell_lt c20
  go_wp2_with fail
  refine bodyPost_ret (v := .agg #[.complex .f64 k1 k2, .float .f64 k3]) (by simp [results, Tryz.results124, go_sem, *]) rfl ⟨rfl, ?_⟩
  repeat (with_reducible first | exact Below.refl _ _ | assumption | refine Below.drew ?_ | refine bl_drewN ?_ _ | refine Below.setCell ?_ (by first | omega | (simp; done) | (simp; omega)) _ | refine Below.alloc ?_ (by first | omega | (simp; done) | (simp; omega)) _ | refine bl_next ?_ (by assumption) | refine bl_trans ?_ (by assumption) (by first | omega | (simp; done) | (simp; omega)))

set_option maxHeartbeats 1000000 in
theorem combine_a2_w (a b r c d s k1 k2 k3 : Nat) (g h : Value)
    (h1 : ∀ w, Calls Tryz.prog 111 #[.agg #[.complex .f64 a b, .float .f64 r]] w fun e w' => e = .returned (.bool false) ∧ Below w.heap.size w w')
    (h2 : ∀ w, Calls Tryz.prog 111 #[.agg #[.complex .f64 c d, .float .f64 s]] w fun e w' => e = .returned (.bool false) ∧ Below w.heap.size w w')
    (h3 : ∀ w, Calls Tryz.prog 113 #[.agg #[.complex .f64 a b, .float .f64 r]] w fun e w' => e = .returned (.bool false) ∧ Below w.heap.size w w')
    (h4 : ∀ w, Calls Tryz.prog 113 #[.agg #[.complex .f64 c d, .float .f64 s]] w fun e w' => e = .returned (.bool true) ∧ Below w.heap.size w w')
    (ad : ∀ w, Calls Tryz.prog 135 #[] w fun e w' => e = .returned (.agg #[.complex .f64 k1 k2, .float .f64 k3]) ∧ Below w.heap.size w w') (w : World) :
    Calls Tryz.prog 124 #[.agg #[.complex .f64 a b, .float .f64 r], .agg #[.complex .f64 c d, .float .f64 s], g, h] w fun e w' => e = .returned (.agg #[.complex .f64 k1 k2, .float .f64 k3]) ∧ Below w.heap.size w w' := by
  go_enter Tryz.func124, Tryz.ntmps124
  go_wp2_with fail
  obtain ⟨w0, hw0⟩ : ∃ v, v = (((w.alloc (.cells #[.complex .f64 a b, .float .f64 r] 42)).alloc (.cells #[.complex .f64 c d, .float .f64 s] 42)).alloc (.cells #[.complex .f64 0 0, .float .f64 0] 42)) := ⟨_, rfl⟩
  rw [← hw0]
  have c00 : w0.cell? ⟨w.heap.size, 0, none⟩ = some (.complex .f64 a b) := by simp [hw0, go_sem]
  have c01 : w0.cell? ⟨w.heap.size, 1, none⟩ = some (.float .f64 r) := by simp [hw0, go_sem]
  have c10 : w0.cell? ⟨w.heap.size + 1, 0, none⟩ = some (.complex .f64 c d) := by simp [hw0, go_sem]
  have c11 : w0.cell? ⟨w.heap.size + 1, 1, none⟩ = some (.float .f64 s) := by simp [hw0, go_sem]
  have c20 : w0.cell? ⟨w.heap.size + 1 + 1, 0, none⟩ = some (.complex .f64 0 0) := by simp [hw0, go_sem]
  have fc20 : w0.frozen? ⟨w.heap.size + 1 + 1, 0, none⟩ = false := by simp [hw0, go_sem]
  have c21 : w0.cell? ⟨w.heap.size + 1 + 1, 1, none⟩ = some (.float .f64 0) := by simp [hw0, go_sem]
  have fc21 : w0.frozen? ⟨w.heap.size + 1 + 1, 1, none⟩ = false := by simp [hw0, go_sem]
  have s0 : w.heap.size + 1 + 1 + 1 ≤ w0.heap.size := by simp [hw0]
  have hB0 : Below w.heap.size w w0 := by
    rw [hw0]
    repeat (with_reducible first | exact Below.refl _ _ | assumption | refine Below.drew ?_ | refine bl_drewN ?_ _ | refine Below.setCell ?_ (by first | omega | (simp; done) | (simp; omega)) _ | refine Below.alloc ?_ (by first | omega | (simp; done) | (simp; omega)) _ | refine bl_next ?_ (by assumption) | refine bl_trans ?_ (by assumption) (by first | omega | (simp; done) | (simp; omega)))
  clear hw0
  go_at_call 111
  refine (h1 _).mono ?_
  rintro e w1 ⟨rfl, hb1⟩
  have s1 := hb1.size
  try simp at s1
  replace fc20 := bfroz2 hb1 c20 fc20
  replace fc21 := bfroz2 hb1 c21 fc21
  replace c00 := bkeep2 hb1 c00
  replace c01 := bkeep2 hb1 c01
  replace c10 := bkeep2 hb1 c10
  replace c11 := bkeep2 hb1 c11
  replace c20 := bkeep2 hb1 c20
  replace c21 := bkeep2 hb1 c21
  have l0 : w.heap.size < w1.heap.size := cell_lt c00
  have l1 : w.heap.size + 1 < w1.heap.size := cell_lt c10
  have l2 : w.heap.size + 1 + 1 < w1.heap.size := cell_lt c20
  go_wp2_with fail
  go_at_call 111
  refine (h2 _).mono ?_
  rintro e w2 ⟨rfl, hb2⟩
  have s2 := hb2.size
  try simp at s2
  replace fc20 := bfroz2 hb2 c20 fc20
  replace fc21 := bfroz2 hb2 c21 fc21
  replace c00 := bkeep2 hb2 c00
  replace c01 := bkeep2 hb2 c01
  replace c10 := bkeep2 hb2 c10
  replace c11 := bkeep2 hb2 c11
  replace c20 := bkeep2 hb2 c20
  replace c21 := bkeep2 hb2 c21
  have l0 : w.heap.size < w2.heap.size := cell_lt c00
  have l1 : w.heap.size + 1 < w2.heap.size := cell_lt c10
  have l2 : w.heap.size + 1 + 1 < w2.heap.size := cell_lt c20
  go_wp2_with fail
  go_at_call 113
  refine (h3 _).mono ?_
  rintro e w3 ⟨rfl, hb3⟩
  have s3 := hb3.size
  try simp at s3
  replace fc20 := bfroz2 hb3 c20 fc20
  replace fc21 := bfroz2 hb3 c21 fc21
  replace c00 := bkeep2 hb3 c00
  replace c01 := bkeep2 hb3 c01
  replace c10 := bkeep2 hb3 c10
  replace c11 := bkeep2 hb3 c11
  replace c20 := bkeep2 hb3 c20
  replace c21 := bkeep2 hb3 c21
  have l0 : w.heap.size < w3.heap.size := cell_lt c00
  have l1 : w.heap.size + 1 < w3.heap.size := cell_lt c10
  have l2 : w.heap.size + 1 + 1 < w3.heap.size := cell_lt c20
  go_wp2_with fail
  go_at_call 113
  refine (h4 _).mono ?_
  rintro e w4 ⟨rfl, hb4⟩
  have s4 := hb4.size
  try simp at s4
  replace fc20 := bfroz2 hb4 c20 fc20
  replace fc21 := bfroz2 hb4 c21 fc21
  replace c00 := bkeep2 hb4 c00
  replace c01 := bkeep2 hb4 c01
  replace c10 := bkeep2 hb4 c10
  replace c11 := bkeep2 hb4 c11
  replace c20 := bkeep2 hb4 c20
  replace c21 := bkeep2 hb4 c21
  have l0 : w.heap.size < w4.heap.size := cell_lt c00
  have l1 : w.heap.size + 1 < w4.heap.size := cell_lt c10
  have l2 : w.heap.size + 1 + 1 < w4.heap.size := cell_lt c20
  go_wp2_with fail
  go_at_call 135
  refine (ad _).mono ?_
  rintro e w5 ⟨rfl, hb5⟩
  have s5 := hb5.size
  try simp at s5
  replace fc20 := bfroz2 hb5 c20 fc20
  replace fc21 := bfroz2 hb5 c21 fc21
  replace c00 := bkeep2 hb5 c00
  replace c01 := bkeep2 hb5 c01
  replace c10 := bkeep2 hb5 c10
  replace c11 := bkeep2 hb5 c11
  replace c20 := bkeep2 hb5 c20
  replace c21 := bkeep2 hb5 c21
  have l0 : w.heap.size < w5.heap.size := cell_lt c00
  have l1 : w.heap.size + 1 < w5.heap.size := cell_lt c10
  have l2 : w.heap.size + 1 + 1 < w5.heap.size := cell_lt c20
  go_wp2_with fail
  refine bodyPost_ret (v := .agg #[.complex .f64 k1 k2, .float .f64 k3]) (by simp [results, Tryz.results124, go_sem, *]) rfl ⟨rfl, ?_⟩
  repeat (with_reducible first | exact Below.refl _ _ | assumption | refine Below.drew ?_ | refine bl_drewN ?_ _ | refine Below.setCell ?_ (by first | omega | (simp; done) | (simp; omega)) _ | refine Below.alloc ?_ (by first | omega | (simp; done) | (simp; omega)) _ | refine bl_next ?_ (by assumption) | refine bl_trans ?_ (by assumption) (by first | omega | (simp; done) | (simp; omega)))

set_option maxHeartbeats 2000000 in
theorem combineAdd_w (a b r c d s k1 k2 k3 t X1 X2 X3 X4 Y1 Y2 Y3 Y4 z1 z2 z3 z4 : Nat)
    (h1 : ∀ w, Calls Tryz.prog 111 #[.agg #[.complex .f64 a b, .float .f64 r]] w fun e w' => e = .returned (.bool false) ∧ Below w.heap.size w w')
    (h2 : ∀ w, Calls Tryz.prog 111 #[.agg #[.complex .f64 c d, .float .f64 s]] w fun e w' => e = .returned (.bool false) ∧ Below w.heap.size w w')
    (h3 : ∀ w, Calls Tryz.prog 113 #[.agg #[.complex .f64 a b, .float .f64 r]] w fun e w' => e = .returned (.bool false) ∧ Below w.heap.size w w')
    (h4 : ∀ w, Calls Tryz.prog 113 #[.agg #[.complex .f64 c d, .float .f64 s]] w fun e w' => e = .returned (.bool false) ∧ Below w.heap.size w w')
    (p1 : ∀ w, Calls Tryz.prog 115 #[.complex .f64 a b] w fun e w' => e = .returned (.agg #[.float .f64 X1, .float .f64 X2, .float .f64 X3, .float .f64 X4]) ∧ Below w.heap.size w w')
    (p2 : ∀ w, Calls Tryz.prog 115 #[.complex .f64 c d] w fun e w' => e = .returned (.agg #[.float .f64 Y1, .float .f64 Y2, .float .f64 Y3, .float .f64 Y4]) ∧ Below w.heap.size w w')
    (bo : ∀ w, Calls Tryz.prog 85 #[.agg #[.float .f64 X1, .float .f64 X2, .float .f64 X3, .float .f64 X4], .agg #[.float .f64 Y1, .float .f64 Y2, .float .f64 Y3, .float .f64 Y4]] w fun e w' => e = .returned (.agg #[.float .f64 z1, .float .f64 z2, .float .f64 z3, .float .f64 z4]) ∧ Below w.heap.size w w')
    (rd : ∀ w, Calls Tryz.prog 125 #[.agg #[.complex .f64 a b, .float .f64 r], .agg #[.complex .f64 c d, .float .f64 s]] w fun e w' => e = .returned (.float .f64 t) ∧ Below w.heap.size w w')
    (ar : ∀ w, Calls Tryz.prog 123 #[.agg #[.float .f64 z1, .float .f64 z2, .float .f64 z3, .float .f64 z4], .float .f64 t] w fun e w' => e = .returned (.agg #[.complex .f64 k1 k2, .float .f64 k3]) ∧ Below w.heap.size w w') (w : World) :
    Calls Tryz.prog 124 #[.agg #[.complex .f64 a b, .float .f64 r], .agg #[.complex .f64 c d, .float .f64 s], .func (.func 85) #[] #[], .func (.func 125) #[] #[]] w fun e w' => e = .returned (.agg #[.complex .f64 k1 k2, .float .f64 k3]) ∧ Below w.heap.size w w' := by
  go_enter Tryz.func124, Tryz.ntmps124
  go_wp2_with fail
  obtain ⟨w0, hw0⟩ : ∃ v, v = (((w.alloc (.cells #[.complex .f64 a b, .float .f64 r] 42)).alloc (.cells #[.complex .f64 c d, .float .f64 s] 42)).alloc (.cells #[.complex .f64 0 0, .float .f64 0] 42)) := ⟨_, rfl⟩
  rw [← hw0]
  have c00 : w0.cell? ⟨w.heap.size, 0, none⟩ = some (.complex .f64 a b) := by simp [hw0, go_sem]
  have c01 : w0.cell? ⟨w.heap.size, 1, none⟩ = some (.float .f64 r) := by simp [hw0, go_sem]
  have c10 : w0.cell? ⟨w.heap.size + 1, 0, none⟩ = some (.complex .f64 c d) := by simp [hw0, go_sem]
  have c11 : w0.cell? ⟨w.heap.size + 1, 1, none⟩ = some (.float .f64 s) := by simp [hw0, go_sem]
  have c20 : w0.cell? ⟨w.heap.size + 1 + 1, 0, none⟩ = some (.complex .f64 0 0) := by simp [hw0, go_sem]
  have fc20 : w0.frozen? ⟨w.heap.size + 1 + 1, 0, none⟩ = false := by simp [hw0, go_sem]
  have c21 : w0.cell? ⟨w.heap.size + 1 + 1, 1, none⟩ = some (.float .f64 0) := by simp [hw0, go_sem]
  have fc21 : w0.frozen? ⟨w.heap.size + 1 + 1, 1, none⟩ = false := by simp [hw0, go_sem]
  have s0 : w.heap.size + 1 + 1 + 1 ≤ w0.heap.size := by simp [hw0]
  have hB0 : Below w.heap.size w w0 := by
    rw [hw0]
    repeat (with_reducible first | exact Below.refl _ _ | assumption | refine Below.drew ?_ | refine bl_drewN ?_ _ | refine Below.setCell ?_ (by first | omega | (simp; done) | (simp; omega)) _ | refine Below.alloc ?_ (by first | omega | (simp; done) | (simp; omega)) _ | refine bl_next ?_ (by assumption) | refine bl_trans ?_ (by assumption) (by first | omega | (simp; done) | (simp; omega)))
  clear hw0
  go_at_call 111
  refine (h1 _).mono ?_
  rintro e w1 ⟨rfl, hb1⟩
  have s1 := hb1.size
  try simp at s1
  replace fc20 := bfroz2 hb1 c20 fc20
  replace fc21 := bfroz2 hb1 c21 fc21
  replace c00 := bkeep2 hb1 c00
  replace c01 := bkeep2 hb1 c01
  replace c10 := bkeep2 hb1 c10
  replace c11 := bkeep2 hb1 c11
  replace c20 := bkeep2 hb1 c20
  replace c21 := bkeep2 hb1 c21
  have l0 : w.heap.size < w1.heap.size := cell_lt c00
  have l1 : w.heap.size + 1 < w1.heap.size := cell_lt c10
  have l2 : w.heap.size + 1 + 1 < w1.heap.size := cell_lt c20
  go_wp2_with fail
  go_at_call 111
  refine (h2 _).mono ?_
  rintro e w2 ⟨rfl, hb2⟩
  have s2 := hb2.size
  try simp at s2
  replace fc20 := bfroz2 hb2 c20 fc20
  replace fc21 := bfroz2 hb2 c21 fc21
  replace c00 := bkeep2 hb2 c00
  replace c01 := bkeep2 hb2 c01
  replace c10 := bkeep2 hb2 c10
  replace c11 := bkeep2 hb2 c11
  replace c20 := bkeep2 hb2 c20
  replace c21 := bkeep2 hb2 c21
  have l0 : w.heap.size < w2.heap.size := cell_lt c00
  have l1 : w.heap.size + 1 < w2.heap.size := cell_lt c10
  have l2 : w.heap.size + 1 + 1 < w2.heap.size := cell_lt c20
  go_wp2_with fail
  go_at_call 113
  refine (h3 _).mono ?_
  rintro e w3 ⟨rfl, hb3⟩
  have s3 := hb3.size
  try simp at s3
  replace fc20 := bfroz2 hb3 c20 fc20
  replace fc21 := bfroz2 hb3 c21 fc21
  replace c00 := bkeep2 hb3 c00
  replace c01 := bkeep2 hb3 c01
  replace c10 := bkeep2 hb3 c10
  replace c11 := bkeep2 hb3 c11
  replace c20 := bkeep2 hb3 c20
  replace c21 := bkeep2 hb3 c21
  have l0 : w.heap.size < w3.heap.size := cell_lt c00
  have l1 : w.heap.size + 1 < w3.heap.size := cell_lt c10
  have l2 : w.heap.size + 1 + 1 < w3.heap.size := cell_lt c20
  go_wp2_with fail
  go_at_call 113
  refine (h4 _).mono ?_
  rintro e w4 ⟨rfl, hb4⟩
  have s4 := hb4.size
  try simp at s4
  replace fc20 := bfroz2 hb4 c20 fc20
  replace fc21 := bfroz2 hb4 c21 fc21
  replace c00 := bkeep2 hb4 c00
  replace c01 := bkeep2 hb4 c01
  replace c10 := bkeep2 hb4 c10
  replace c11 := bkeep2 hb4 c11
  replace c20 := bkeep2 hb4 c20
  replace c21 := bkeep2 hb4 c21
  have l0 : w.heap.size < w4.heap.size := cell_lt c00
  have l1 : w.heap.size + 1 < w4.heap.size := cell_lt c10
  have l2 : w.heap.size + 1 + 1 < w4.heap.size := cell_lt c20
  go_wp2_with fail
  go_region_held3? (fun w' => w'.cell? ⟨w.heap.size, 0, none⟩ = some (.complex .f64 a b) ∧ w'.cell? ⟨w.heap.size, 1, none⟩ = some (.float .f64 r) ∧ w'.cell? ⟨w.heap.size + 1, 0, none⟩ = some (.complex .f64 c d) ∧ w'.cell? ⟨w.heap.size + 1, 1, none⟩ = some (.float .f64 s)) (((try dsimp only); (try go_split_ands); (repeat' apply And.intro) <;> first | (with_reducible assumption) | (rw [set_other (by first | omega | (simp; done) | (simp; omega)), set_other (by first | omega | (simp; done) | (simp; omega))]; (with_reducible assumption)) | (with_reducible refine bkeep2 hb ?_; first | (with_reducible assumption) | (simp [*]; done)) | go_keep)) (first | (go_at_call 115; with_reducible refine (p1 _).mono ?_; rintro e w' ⟨rfl, hb⟩; have z0 := bkeep2 hb (p := ⟨w.heap.size + 1 + 1, 0, none⟩) (v := .complex .f64 0 0) (by first | (with_reducible assumption) | simp [*]); have y0 := bfroz2 hb (p := ⟨w.heap.size + 1 + 1, 0, none⟩) (v := .complex .f64 0 0) (by first | (with_reducible assumption) | simp [*]) (by first | (with_reducible assumption) | simp [*]); have z1 := bkeep2 hb (p := ⟨w.heap.size + 1 + 1, 1, none⟩) (v := .float .f64 0) (by first | (with_reducible assumption) | simp [*]); have y1 := bfroz2 hb (p := ⟨w.heap.size + 1 + 1, 1, none⟩) (v := .float .f64 0) (by first | (with_reducible assumption) | simp [*]) (by first | (with_reducible assumption) | simp [*])) | (go_at_call 115; with_reducible refine (p2 _).mono ?_; rintro e w' ⟨rfl, hb⟩; have z0 := bkeep2 hb (p := ⟨w.heap.size + 1 + 1, 0, none⟩) (v := .complex .f64 0 0) (by first | (with_reducible assumption) | simp [*]); have y0 := bfroz2 hb (p := ⟨w.heap.size + 1 + 1, 0, none⟩) (v := .complex .f64 0 0) (by first | (with_reducible assumption) | simp [*]) (by first | (with_reducible assumption) | simp [*]); have z1 := bkeep2 hb (p := ⟨w.heap.size + 1 + 1, 1, none⟩) (v := .float .f64 0) (by first | (with_reducible assumption) | simp [*]); have y1 := bfroz2 hb (p := ⟨w.heap.size + 1 + 1, 1, none⟩) (v := .float .f64 0) (by first | (with_reducible assumption) | simp [*]) (by first | (with_reducible assumption) | simp [*])) | (go_at_call 85; with_reducible refine (bo _).mono ?_; rintro e w' ⟨rfl, hb⟩; have z0 := bkeep2 hb (p := ⟨w.heap.size + 1 + 1, 0, none⟩) (v := .complex .f64 0 0) (by first | (with_reducible assumption) | simp [*]); have y0 := bfroz2 hb (p := ⟨w.heap.size + 1 + 1, 0, none⟩) (v := .complex .f64 0 0) (by first | (with_reducible assumption) | simp [*]) (by first | (with_reducible assumption) | simp [*]); have z1 := bkeep2 hb (p := ⟨w.heap.size + 1 + 1, 1, none⟩) (v := .float .f64 0) (by first | (with_reducible assumption) | simp [*]); have y1 := bfroz2 hb (p := ⟨w.heap.size + 1 + 1, 1, none⟩) (v := .float .f64 0) (by first | (with_reducible assumption) | simp [*]) (by first | (with_reducible assumption) | simp [*])) | (go_at_call 125; with_reducible refine (rd _).mono ?_; rintro e w' ⟨rfl, hb⟩; have z0 := bkeep2 hb (p := ⟨w.heap.size + 1 + 1, 0, none⟩) (v := .complex .f64 0 0) (by first | (with_reducible assumption) | simp [*]); have y0 := bfroz2 hb (p := ⟨w.heap.size + 1 + 1, 0, none⟩) (v := .complex .f64 0 0) (by first | (with_reducible assumption) | simp [*]) (by first | (with_reducible assumption) | simp [*]); have z1 := bkeep2 hb (p := ⟨w.heap.size + 1 + 1, 1, none⟩) (v := .float .f64 0) (by first | (with_reducible assumption) | simp [*]); have y1 := bfroz2 hb (p := ⟨w.heap.size + 1 + 1, 1, none⟩) (v := .float .f64 0) (by first | (with_reducible assumption) | simp [*]) (by first | (with_reducible assumption) | simp [*])) | (go_at_call 123; with_reducible refine (ar _).mono ?_; rintro e w' ⟨rfl, hb⟩; have z0 := bkeep2 hb (p := ⟨w.heap.size + 1 + 1, 0, none⟩) (v := .complex .f64 0 0) (by first | (with_reducible assumption) | simp [*]); have y0 := bfroz2 hb (p := ⟨w.heap.size + 1 + 1, 0, none⟩) (v := .complex .f64 0 0) (by first | (with_reducible assumption) | simp [*]) (by first | (with_reducible assumption) | simp [*]); have z1 := bkeep2 hb (p := ⟨w.heap.size + 1 + 1, 1, none⟩) (v := .float .f64 0) (by first | (with_reducible assumption) | simp [*]); have y1 := bfroz2 hb (p := ⟨w.heap.size + 1 + 1, 1, none⟩) (v := .float .f64 0) (by first | (with_reducible assumption) | simp [*]) (by first | (with_reducible assumption) | simp [*])))
  all_goals (go_wp2_with fail; refine bodyPost_ret (v := .agg #[.complex .f64 k1 k2, .float .f64 k3]) (by simp [results, Tryz.results124, go_sem, *]) rfl ⟨rfl, ?_⟩; repeat (with_reducible first | exact Below.refl _ _ | assumption | refine Below.drew ?_ | refine bl_drewN ?_ _ | refine Below.setCell ?_ (by first | omega | (simp; done) | (simp; omega)) _ | refine Below.alloc ?_ (by first | omega | (simp; done) | (simp; omega)) _ | refine bl_next ?_ (by assumption) | refine bl_trans ?_ (by assumption) (by first | omega | (simp; done) | (simp; omega))))

set_option maxHeartbeats 1000000 in
theorem discAdd_w (a b r c d s k1 k2 k3 : Nat)
    (h : ∀ w, Calls Tryz.prog 124 #[.agg #[.complex .f64 a b, .float .f64 r], .agg #[.complex .f64 c d, .float .f64 s], .func (.func 85) #[] #[], .func (.func 125) #[] #[]] w fun e w' => e = .returned (.agg #[.complex .f64 k1 k2, .float .f64 k3]) ∧ Below w.heap.size w w') (w : World) :
    Calls Tryz.prog 89 #[.agg #[.complex .f64 a b, .float .f64 r], .agg #[.complex .f64 c d, .float .f64 s]] w fun e w' => e = .returned (.agg #[.complex .f64 k1 k2, .float .f64 k3]) ∧ Below w.heap.size w w' := by
  go_enter Tryz.func89, Tryz.ntmps89
  go_wp2_with fail
  obtain ⟨w0, hw0⟩ : ∃ v, v = (((w.alloc (.cells #[.complex .f64 a b, .float .f64 r] 42)).alloc (.cells #[.complex .f64 c d, .float .f64 s] 42)).alloc (.cells #[.complex .f64 0 0, .float .f64 0] 42)) := ⟨_, rfl⟩
  rw [← hw0]
  have c00 : w0.cell? ⟨w.heap.size, 0, none⟩ = some (.complex .f64 a b) := by simp [hw0, go_sem]
  have c01 : w0.cell? ⟨w.heap.size, 1, none⟩ = some (.float .f64 r) := by simp [hw0, go_sem]
  have c10 : w0.cell? ⟨w.heap.size + 1, 0, none⟩ = some (.complex .f64 c d) := by simp [hw0, go_sem]
  have c11 : w0.cell? ⟨w.heap.size + 1, 1, none⟩ = some (.float .f64 s) := by simp [hw0, go_sem]
  have c20 : w0.cell? ⟨w.heap.size + 1 + 1, 0, none⟩ = some (.complex .f64 0 0) := by simp [hw0, go_sem]
  have fc20 : w0.frozen? ⟨w.heap.size + 1 + 1, 0, none⟩ = false := by simp [hw0, go_sem]
  have c21 : w0.cell? ⟨w.heap.size + 1 + 1, 1, none⟩ = some (.float .f64 0) := by simp [hw0, go_sem]
  have fc21 : w0.frozen? ⟨w.heap.size + 1 + 1, 1, none⟩ = false := by simp [hw0, go_sem]
  have s0 : w.heap.size + 1 + 1 + 1 ≤ w0.heap.size := by simp [hw0]
  have hB0 : Below w.heap.size w w0 := by
    rw [hw0]
    repeat (with_reducible first | exact Below.refl _ _ | assumption | refine Below.drew ?_ | refine bl_drewN ?_ _ | refine Below.setCell ?_ (by first | omega | (simp; done) | (simp; omega)) _ | refine Below.alloc ?_ (by first | omega | (simp; done) | (simp; omega)) _ | refine bl_next ?_ (by assumption) | refine bl_trans ?_ (by assumption) (by first | omega | (simp; done) | (simp; omega)))
  clear hw0
  go_at_call 124
  refine (h _).mono ?_
  rintro e w1 ⟨rfl, hb1⟩
  have s1 := hb1.size
  try simp at s1
  replace fc20 := bfroz2 hb1 c20 fc20
  replace fc21 := bfroz2 hb1 c21 fc21
  replace c00 := bkeep2 hb1 c00
  replace c01 := bkeep2 hb1 c01
  replace c10 := bkeep2 hb1 c10
  replace c11 := bkeep2 hb1 c11
  replace c20 := bkeep2 hb1 c20
  replace c21 := bkeep2 hb1 c21
  have l0 : w.heap.size < w1.heap.size := cell_lt c00
  have l1 : w.heap.size + 1 < w1.heap.size := cell_lt c10
  have l2 : w.heap.size + 1 + 1 < w1.heap.size := cell_lt c20
  go_wp2_with fail
  refine bodyPost_ret (v := .agg #[.complex .f64 k1 k2, .float .f64 k3]) (by simp [results, Tryz.results89, go_sem, *]) rfl ⟨rfl, ?_⟩
  repeat (with_reducible first | exact Below.refl _ _ | assumption | refine Below.drew ?_ | refine bl_drewN ?_ _ | refine Below.setCell ?_ (by first | omega | (simp; done) | (simp; omega)) _ | refine Below.alloc ?_ (by first | omega | (simp; done) | (simp; omega)) _ | refine bl_next ?_ (by assumption) | refine bl_trans ?_ (by assumption) (by first | omega | (simp; done) | (simp; omega)))

set_option maxHeartbeats 2000000 in
theorem combineSub_w (a b r c d s k1 k2 k3 t X1 X2 X3 X4 Y1 Y2 Y3 Y4 z1 z2 z3 z4 : Nat)
    (h1 : ∀ w, Calls Tryz.prog 111 #[.agg #[.complex .f64 a b, .float .f64 r]] w fun e w' => e = .returned (.bool false) ∧ Below w.heap.size w w')
    (h2 : ∀ w, Calls Tryz.prog 111 #[.agg #[.complex .f64 c d, .float .f64 s]] w fun e w' => e = .returned (.bool false) ∧ Below w.heap.size w w')
    (h3 : ∀ w, Calls Tryz.prog 113 #[.agg #[.complex .f64 a b, .float .f64 r]] w fun e w' => e = .returned (.bool false) ∧ Below w.heap.size w w')
    (h4 : ∀ w, Calls Tryz.prog 113 #[.agg #[.complex .f64 c d, .float .f64 s]] w fun e w' => e = .returned (.bool false) ∧ Below w.heap.size w w')
    (p1 : ∀ w, Calls Tryz.prog 115 #[.complex .f64 a b] w fun e w' => e = .returned (.agg #[.float .f64 X1, .float .f64 X2, .float .f64 X3, .float .f64 X4]) ∧ Below w.heap.size w w')
    (p2 : ∀ w, Calls Tryz.prog 115 #[.complex .f64 c d] w fun e w' => e = .returned (.agg #[.float .f64 Y1, .float .f64 Y2, .float .f64 Y3, .float .f64 Y4]) ∧ Below w.heap.size w w')
    (bo : ∀ w, Calls Tryz.prog 86 #[.agg #[.float .f64 X1, .float .f64 X2, .float .f64 X3, .float .f64 X4], .agg #[.float .f64 Y1, .float .f64 Y2, .float .f64 Y3, .float .f64 Y4]] w fun e w' => e = .returned (.agg #[.float .f64 z1, .float .f64 z2, .float .f64 z3, .float .f64 z4]) ∧ Below w.heap.size w w')
    (rd : ∀ w, Calls Tryz.prog 125 #[.agg #[.complex .f64 a b, .float .f64 r], .agg #[.complex .f64 c d, .float .f64 s]] w fun e w' => e = .returned (.float .f64 t) ∧ Below w.heap.size w w')
    (ar : ∀ w, Calls Tryz.prog 123 #[.agg #[.float .f64 z1, .float .f64 z2, .float .f64 z3, .float .f64 z4], .float .f64 t] w fun e w' => e = .returned (.agg #[.complex .f64 k1 k2, .float .f64 k3]) ∧ Below w.heap.size w w') (w : World) :
    Calls Tryz.prog 124 #[.agg #[.complex .f64 a b, .float .f64 r], .agg #[.complex .f64 c d, .float .f64 s], .func (.func 86) #[] #[], .func (.func 125) #[] #[]] w fun e w' => e = .returned (.agg #[.complex .f64 k1 k2, .float .f64 k3]) ∧ Below w.heap.size w w' := by
  go_enter Tryz.func124, Tryz.ntmps124
  go_wp2_with fail
  obtain ⟨w0, hw0⟩ : ∃ v, v = (((w.alloc (.cells #[.complex .f64 a b, .float .f64 r] 42)).alloc (.cells #[.complex .f64 c d, .float .f64 s] 42)).alloc (.cells #[.complex .f64 0 0, .float .f64 0] 42)) := ⟨_, rfl⟩
  rw [← hw0]
  have c00 : w0.cell? ⟨w.heap.size, 0, none⟩ = some (.complex .f64 a b) := by simp [hw0, go_sem]
  have c01 : w0.cell? ⟨w.heap.size, 1, none⟩ = some (.float .f64 r) := by simp [hw0, go_sem]
  have c10 : w0.cell? ⟨w.heap.size + 1, 0, none⟩ = some (.complex .f64 c d) := by simp [hw0, go_sem]
  have c11 : w0.cell? ⟨w.heap.size + 1, 1, none⟩ = some (.float .f64 s) := by simp [hw0, go_sem]
  have c20 : w0.cell? ⟨w.heap.size + 1 + 1, 0, none⟩ = some (.complex .f64 0 0) := by simp [hw0, go_sem]
  have fc20 : w0.frozen? ⟨w.heap.size + 1 + 1, 0, none⟩ = false := by simp [hw0, go_sem]
  have c21 : w0.cell? ⟨w.heap.size + 1 + 1, 1, none⟩ = some (.float .f64 0) := by simp [hw0, go_sem]
  have fc21 : w0.frozen? ⟨w.heap.size + 1 + 1, 1, none⟩ = false := by simp [hw0, go_sem]
  have s0 : w.heap.size + 1 + 1 + 1 ≤ w0.heap.size := by simp [hw0]
  have hB0 : Below w.heap.size w w0 := by
    rw [hw0]
    repeat (with_reducible first | exact Below.refl _ _ | assumption | refine Below.drew ?_ | refine bl_drewN ?_ _ | refine Below.setCell ?_ (by first | omega | (simp; done) | (simp; omega)) _ | refine Below.alloc ?_ (by first | omega | (simp; done) | (simp; omega)) _ | refine bl_next ?_ (by assumption) | refine bl_trans ?_ (by assumption) (by first | omega | (simp; done) | (simp; omega)))
  clear hw0
  go_at_call 111
  refine (h1 _).mono ?_
  rintro e w1 ⟨rfl, hb1⟩
  have s1 := hb1.size
  try simp at s1
  replace fc20 := bfroz2 hb1 c20 fc20
  replace fc21 := bfroz2 hb1 c21 fc21
  replace c00 := bkeep2 hb1 c00
  replace c01 := bkeep2 hb1 c01
  replace c10 := bkeep2 hb1 c10
  replace c11 := bkeep2 hb1 c11
  replace c20 := bkeep2 hb1 c20
  replace c21 := bkeep2 hb1 c21
  have l0 : w.heap.size < w1.heap.size := cell_lt c00
  have l1 : w.heap.size + 1 < w1.heap.size := cell_lt c10
  have l2 : w.heap.size + 1 + 1 < w1.heap.size := cell_lt c20
  go_wp2_with fail
  go_at_call 111
  refine (h2 _).mono ?_
  rintro e w2 ⟨rfl, hb2⟩
  have s2 := hb2.size
  try simp at s2
  replace fc20 := bfroz2 hb2 c20 fc20
  replace fc21 := bfroz2 hb2 c21 fc21
  replace c00 := bkeep2 hb2 c00
  replace c01 := bkeep2 hb2 c01
  replace c10 := bkeep2 hb2 c10
  replace c11 := bkeep2 hb2 c11
  replace c20 := bkeep2 hb2 c20
  replace c21 := bkeep2 hb2 c21
  have l0 : w.heap.size < w2.heap.size := cell_lt c00
  have l1 : w.heap.size + 1 < w2.heap.size := cell_lt c10
  have l2 : w.heap.size + 1 + 1 < w2.heap.size := cell_lt c20
  go_wp2_with fail
  go_at_call 113
  refine (h3 _).mono ?_
  rintro e w3 ⟨rfl, hb3⟩
  have s3 := hb3.size
  try simp at s3
  replace fc20 := bfroz2 hb3 c20 fc20
  replace fc21 := bfroz2 hb3 c21 fc21
  replace c00 := bkeep2 hb3 c00
  replace c01 := bkeep2 hb3 c01
  replace c10 := bkeep2 hb3 c10
  replace c11 := bkeep2 hb3 c11
  replace c20 := bkeep2 hb3 c20
  replace c21 := bkeep2 hb3 c21
  have l0 : w.heap.size < w3.heap.size := cell_lt c00
  have l1 : w.heap.size + 1 < w3.heap.size := cell_lt c10
  have l2 : w.heap.size + 1 + 1 < w3.heap.size := cell_lt c20
  go_wp2_with fail
  go_at_call 113
  refine (h4 _).mono ?_
  rintro e w4 ⟨rfl, hb4⟩
  have s4 := hb4.size
  try simp at s4
  replace fc20 := bfroz2 hb4 c20 fc20
  replace fc21 := bfroz2 hb4 c21 fc21
  replace c00 := bkeep2 hb4 c00
  replace c01 := bkeep2 hb4 c01
  replace c10 := bkeep2 hb4 c10
  replace c11 := bkeep2 hb4 c11
  replace c20 := bkeep2 hb4 c20
  replace c21 := bkeep2 hb4 c21
  have l0 : w.heap.size < w4.heap.size := cell_lt c00
  have l1 : w.heap.size + 1 < w4.heap.size := cell_lt c10
  have l2 : w.heap.size + 1 + 1 < w4.heap.size := cell_lt c20
  go_wp2_with fail
  go_region_held3? (fun w' => w'.cell? ⟨w.heap.size, 0, none⟩ = some (.complex .f64 a b) ∧ w'.cell? ⟨w.heap.size, 1, none⟩ = some (.float .f64 r) ∧ w'.cell? ⟨w.heap.size + 1, 0, none⟩ = some (.complex .f64 c d) ∧ w'.cell? ⟨w.heap.size + 1, 1, none⟩ = some (.float .f64 s)) (((try dsimp only); (try go_split_ands); (repeat' apply And.intro) <;> first | (with_reducible assumption) | (rw [set_other (by first | omega | (simp; done) | (simp; omega)), set_other (by first | omega | (simp; done) | (simp; omega))]; (with_reducible assumption)) | (with_reducible refine bkeep2 hb ?_; first | (with_reducible assumption) | (simp [*]; done)) | go_keep)) (first | (go_at_call 115; with_reducible refine (p1 _).mono ?_; rintro e w' ⟨rfl, hb⟩; have z0 := bkeep2 hb (p := ⟨w.heap.size + 1 + 1, 0, none⟩) (v := .complex .f64 0 0) (by first | (with_reducible assumption) | simp [*]); have y0 := bfroz2 hb (p := ⟨w.heap.size + 1 + 1, 0, none⟩) (v := .complex .f64 0 0) (by first | (with_reducible assumption) | simp [*]) (by first | (with_reducible assumption) | simp [*]); have z1 := bkeep2 hb (p := ⟨w.heap.size + 1 + 1, 1, none⟩) (v := .float .f64 0) (by first | (with_reducible assumption) | simp [*]); have y1 := bfroz2 hb (p := ⟨w.heap.size + 1 + 1, 1, none⟩) (v := .float .f64 0) (by first | (with_reducible assumption) | simp [*]) (by first | (with_reducible assumption) | simp [*])) | (go_at_call 115; with_reducible refine (p2 _).mono ?_; rintro e w' ⟨rfl, hb⟩; have z0 := bkeep2 hb (p := ⟨w.heap.size + 1 + 1, 0, none⟩) (v := .complex .f64 0 0) (by first | (with_reducible assumption) | simp [*]); have y0 := bfroz2 hb (p := ⟨w.heap.size + 1 + 1, 0, none⟩) (v := .complex .f64 0 0) (by first | (with_reducible assumption) | simp [*]) (by first | (with_reducible assumption) | simp [*]); have z1 := bkeep2 hb (p := ⟨w.heap.size + 1 + 1, 1, none⟩) (v := .float .f64 0) (by first | (with_reducible assumption) | simp [*]); have y1 := bfroz2 hb (p := ⟨w.heap.size + 1 + 1, 1, none⟩) (v := .float .f64 0) (by first | (with_reducible assumption) | simp [*]) (by first | (with_reducible assumption) | simp [*])) | (go_at_call 86; with_reducible refine (bo _).mono ?_; rintro e w' ⟨rfl, hb⟩; have z0 := bkeep2 hb (p := ⟨w.heap.size + 1 + 1, 0, none⟩) (v := .complex .f64 0 0) (by first | (with_reducible assumption) | simp [*]); have y0 := bfroz2 hb (p := ⟨w.heap.size + 1 + 1, 0, none⟩) (v := .complex .f64 0 0) (by first | (with_reducible assumption) | simp [*]) (by first | (with_reducible assumption) | simp [*]); have z1 := bkeep2 hb (p := ⟨w.heap.size + 1 + 1, 1, none⟩) (v := .float .f64 0) (by first | (with_reducible assumption) | simp [*]); have y1 := bfroz2 hb (p := ⟨w.heap.size + 1 + 1, 1, none⟩) (v := .float .f64 0) (by first | (with_reducible assumption) | simp [*]) (by first | (with_reducible assumption) | simp [*])) | (go_at_call 125; with_reducible refine (rd _).mono ?_; rintro e w' ⟨rfl, hb⟩; have z0 := bkeep2 hb (p := ⟨w.heap.size + 1 + 1, 0, none⟩) (v := .complex .f64 0 0) (by first | (with_reducible assumption) | simp [*]); have y0 := bfroz2 hb (p := ⟨w.heap.size + 1 + 1, 0, none⟩) (v := .complex .f64 0 0) (by first | (with_reducible assumption) | simp [*]) (by first | (with_reducible assumption) | simp [*]); have z1 := bkeep2 hb (p := ⟨w.heap.size + 1 + 1, 1, none⟩) (v := .float .f64 0) (by first | (with_reducible assumption) | simp [*]); have y1 := bfroz2 hb (p := ⟨w.heap.size + 1 + 1, 1, none⟩) (v := .float .f64 0) (by first | (with_reducible assumption) | simp [*]) (by first | (with_reducible assumption) | simp [*])) | (go_at_call 123; with_reducible refine (ar _).mono ?_; rintro e w' ⟨rfl, hb⟩; have z0 := bkeep2 hb (p := ⟨w.heap.size + 1 + 1, 0, none⟩) (v := .complex .f64 0 0) (by first | (with_reducible assumption) | simp [*]); have y0 := bfroz2 hb (p := ⟨w.heap.size + 1 + 1, 0, none⟩) (v := .complex .f64 0 0) (by first | (with_reducible assumption) | simp [*]) (by first | (with_reducible assumption) | simp [*]); have z1 := bkeep2 hb (p := ⟨w.heap.size + 1 + 1, 1, none⟩) (v := .float .f64 0) (by first | (with_reducible assumption) | simp [*]); have y1 := bfroz2 hb (p := ⟨w.heap.size + 1 + 1, 1, none⟩) (v := .float .f64 0) (by first | (with_reducible assumption) | simp [*]) (by first | (with_reducible assumption) | simp [*])))
  all_goals (go_wp2_with fail; refine bodyPost_ret (v := .agg #[.complex .f64 k1 k2, .float .f64 k3]) (by simp [results, Tryz.results124, go_sem, *]) rfl ⟨rfl, ?_⟩; repeat (with_reducible first | exact Below.refl _ _ | assumption | refine Below.drew ?_ | refine bl_drewN ?_ _ | refine Below.setCell ?_ (by first | omega | (simp; done) | (simp; omega)) _ | refine Below.alloc ?_ (by first | omega | (simp; done) | (simp; omega)) _ | refine bl_next ?_ (by assumption) | refine bl_trans ?_ (by assumption) (by first | omega | (simp; done) | (simp; omega))))

set_option maxHeartbeats 1000000 in
theorem discSub_w (a b r c d s k1 k2 k3 : Nat)
    (h : ∀ w, Calls Tryz.prog 124 #[.agg #[.complex .f64 a b, .float .f64 r], .agg #[.complex .f64 c d, .float .f64 s], .func (.func 86) #[] #[], .func (.func 125) #[] #[]] w fun e w' => e = .returned (.agg #[.complex .f64 k1 k2, .float .f64 k3]) ∧ Below w.heap.size w w') (w : World) :
    Calls Tryz.prog 90 #[.agg #[.complex .f64 a b, .float .f64 r], .agg #[.complex .f64 c d, .float .f64 s]] w fun e w' => e = .returned (.agg #[.complex .f64 k1 k2, .float .f64 k3]) ∧ Below w.heap.size w w' := by
  go_enter Tryz.func90, Tryz.ntmps90
  go_wp2_with fail
  obtain ⟨w0, hw0⟩ : ∃ v, v = (((w.alloc (.cells #[.complex .f64 a b, .float .f64 r] 42)).alloc (.cells #[.complex .f64 c d, .float .f64 s] 42)).alloc (.cells #[.complex .f64 0 0, .float .f64 0] 42)) := ⟨_, rfl⟩
  rw [← hw0]
  have c00 : w0.cell? ⟨w.heap.size, 0, none⟩ = some (.complex .f64 a b) := by simp [hw0, go_sem]
  have c01 : w0.cell? ⟨w.heap.size, 1, none⟩ = some (.float .f64 r) := by simp [hw0, go_sem]
  have c10 : w0.cell? ⟨w.heap.size + 1, 0, none⟩ = some (.complex .f64 c d) := by simp [hw0, go_sem]
  have c11 : w0.cell? ⟨w.heap.size + 1, 1, none⟩ = some (.float .f64 s) := by simp [hw0, go_sem]
  have c20 : w0.cell? ⟨w.heap.size + 1 + 1, 0, none⟩ = some (.complex .f64 0 0) := by simp [hw0, go_sem]
  have fc20 : w0.frozen? ⟨w.heap.size + 1 + 1, 0, none⟩ = false := by simp [hw0, go_sem]
  have c21 : w0.cell? ⟨w.heap.size + 1 + 1, 1, none⟩ = some (.float .f64 0) := by simp [hw0, go_sem]
  have fc21 : w0.frozen? ⟨w.heap.size + 1 + 1, 1, none⟩ = false := by simp [hw0, go_sem]
  have s0 : w.heap.size + 1 + 1 + 1 ≤ w0.heap.size := by simp [hw0]
  have hB0 : Below w.heap.size w w0 := by
    rw [hw0]
    repeat (with_reducible first | exact Below.refl _ _ | assumption | refine Below.drew ?_ | refine bl_drewN ?_ _ | refine Below.setCell ?_ (by first | omega | (simp; done) | (simp; omega)) _ | refine Below.alloc ?_ (by first | omega | (simp; done) | (simp; omega)) _ | refine bl_next ?_ (by assumption) | refine bl_trans ?_ (by assumption) (by first | omega | (simp; done) | (simp; omega)))
  clear hw0
  go_at_call 124
  refine (h _).mono ?_
  rintro e w1 ⟨rfl, hb1⟩
  have s1 := hb1.size
  try simp at s1
  replace fc20 := bfroz2 hb1 c20 fc20
  replace fc21 := bfroz2 hb1 c21 fc21
  replace c00 := bkeep2 hb1 c00
  replace c01 := bkeep2 hb1 c01
  replace c10 := bkeep2 hb1 c10
  replace c11 := bkeep2 hb1 c11
  replace c20 := bkeep2 hb1 c20
  replace c21 := bkeep2 hb1 c21
  have l0 : w.heap.size < w1.heap.size := cell_lt c00
  have l1 : w.heap.size + 1 < w1.heap.size := cell_lt c10
  have l2 : w.heap.size + 1 + 1 < w1.heap.size := cell_lt c20
  go_wp2_with fail
  refine bodyPost_ret (v := .agg #[.complex .f64 k1 k2, .float .f64 k3]) (by simp [results, Tryz.results90, go_sem, *]) rfl ⟨rfl, ?_⟩
  repeat (with_reducible first | exact Below.refl _ _ | assumption | refine Below.drew ?_ | refine bl_drewN ?_ _ | refine Below.setCell ?_ (by first | omega | (simp; done) | (simp; omega)) _ | refine Below.alloc ?_ (by first | omega | (simp; done) | (simp; omega)) _ | refine bl_next ?_ (by assumption) | refine bl_trans ?_ (by assumption) (by first | omega | (simp; done) | (simp; omega)))

set_option maxHeartbeats 2000000 in
theorem combineMul_w (a b r c d s k1 k2 k3 t X1 X2 X3 X4 Y1 Y2 Y3 Y4 z1 z2 z3 z4 : Nat)
    (h1 : ∀ w, Calls Tryz.prog 111 #[.agg #[.complex .f64 a b, .float .f64 r]] w fun e w' => e = .returned (.bool false) ∧ Below w.heap.size w w')
    (h2 : ∀ w, Calls Tryz.prog 111 #[.agg #[.complex .f64 c d, .float .f64 s]] w fun e w' => e = .returned (.bool false) ∧ Below w.heap.size w w')
    (h3 : ∀ w, Calls Tryz.prog 113 #[.agg #[.complex .f64 a b, .float .f64 r]] w fun e w' => e = .returned (.bool false) ∧ Below w.heap.size w w')
    (h4 : ∀ w, Calls Tryz.prog 113 #[.agg #[.complex .f64 c d, .float .f64 s]] w fun e w' => e = .returned (.bool false) ∧ Below w.heap.size w w')
    (p1 : ∀ w, Calls Tryz.prog 115 #[.complex .f64 a b] w fun e w' => e = .returned (.agg #[.float .f64 X1, .float .f64 X2, .float .f64 X3, .float .f64 X4]) ∧ Below w.heap.size w w')
    (p2 : ∀ w, Calls Tryz.prog 115 #[.complex .f64 c d] w fun e w' => e = .returned (.agg #[.float .f64 Y1, .float .f64 Y2, .float .f64 Y3, .float .f64 Y4]) ∧ Below w.heap.size w w')
    (bo : ∀ w, Calls Tryz.prog 87 #[.agg #[.float .f64 X1, .float .f64 X2, .float .f64 X3, .float .f64 X4], .agg #[.float .f64 Y1, .float .f64 Y2, .float .f64 Y3, .float .f64 Y4]] w fun e w' => e = .returned (.agg #[.float .f64 z1, .float .f64 z2, .float .f64 z3, .float .f64 z4]) ∧ Below w.heap.size w w')
    (rd : ∀ w, Calls Tryz.prog 126 #[.agg #[.complex .f64 a b, .float .f64 r], .agg #[.complex .f64 c d, .float .f64 s]] w fun e w' => e = .returned (.float .f64 t) ∧ Below w.heap.size w w')
    (ar : ∀ w, Calls Tryz.prog 123 #[.agg #[.float .f64 z1, .float .f64 z2, .float .f64 z3, .float .f64 z4], .float .f64 t] w fun e w' => e = .returned (.agg #[.complex .f64 k1 k2, .float .f64 k3]) ∧ Below w.heap.size w w') (w : World) :
    Calls Tryz.prog 124 #[.agg #[.complex .f64 a b, .float .f64 r], .agg #[.complex .f64 c d, .float .f64 s], .func (.func 87) #[] #[], .func (.func 126) #[] #[]] w fun e w' => e = .returned (.agg #[.complex .f64 k1 k2, .float .f64 k3]) ∧ Below w.heap.size w w' := by
  go_enter Tryz.func124, Tryz.ntmps124
  go_wp2_with fail
  obtain ⟨w0, hw0⟩ : ∃ v, v = (((w.alloc (.cells #[.complex .f64 a b, .float .f64 r] 42)).alloc (.cells #[.complex .f64 c d, .float .f64 s] 42)).alloc (.cells #[.complex .f64 0 0, .float .f64 0] 42)) := ⟨_, rfl⟩
  rw [← hw0]
  have c00 : w0.cell? ⟨w.heap.size, 0, none⟩ = some (.complex .f64 a b) := by simp [hw0, go_sem]
  have c01 : w0.cell? ⟨w.heap.size, 1, none⟩ = some (.float .f64 r) := by simp [hw0, go_sem]
  have c10 : w0.cell? ⟨w.heap.size + 1, 0, none⟩ = some (.complex .f64 c d) := by simp [hw0, go_sem]
  have c11 : w0.cell? ⟨w.heap.size + 1, 1, none⟩ = some (.float .f64 s) := by simp [hw0, go_sem]
  have c20 : w0.cell? ⟨w.heap.size + 1 + 1, 0, none⟩ = some (.complex .f64 0 0) := by simp [hw0, go_sem]
  have fc20 : w0.frozen? ⟨w.heap.size + 1 + 1, 0, none⟩ = false := by simp [hw0, go_sem]
  have c21 : w0.cell? ⟨w.heap.size + 1 + 1, 1, none⟩ = some (.float .f64 0) := by simp [hw0, go_sem]
  have fc21 : w0.frozen? ⟨w.heap.size + 1 + 1, 1, none⟩ = false := by simp [hw0, go_sem]
  have s0 : w.heap.size + 1 + 1 + 1 ≤ w0.heap.size := by simp [hw0]
  have hB0 : Below w.heap.size w w0 := by
    rw [hw0]
    repeat (with_reducible first | exact Below.refl _ _ | assumption | refine Below.drew ?_ | refine bl_drewN ?_ _ | refine Below.setCell ?_ (by first | omega | (simp; done) | (simp; omega)) _ | refine Below.alloc ?_ (by first | omega | (simp; done) | (simp; omega)) _ | refine bl_next ?_ (by assumption) | refine bl_trans ?_ (by assumption) (by first | omega | (simp; done) | (simp; omega)))
  clear hw0
  go_at_call 111
  refine (h1 _).mono ?_
  rintro e w1 ⟨rfl, hb1⟩
  have s1 := hb1.size
  try simp at s1
  replace fc20 := bfroz2 hb1 c20 fc20
  replace fc21 := bfroz2 hb1 c21 fc21
  replace c00 := bkeep2 hb1 c00
  replace c01 := bkeep2 hb1 c01
  replace c10 := bkeep2 hb1 c10
  replace c11 := bkeep2 hb1 c11
  replace c20 := bkeep2 hb1 c20
  replace c21 := bkeep2 hb1 c21
  have l0 : w.heap.size < w1.heap.size := cell_lt c00
  have l1 : w.heap.size + 1 < w1.heap.size := cell_lt c10
  have l2 : w.heap.size + 1 + 1 < w1.heap.size := cell_lt c20
  go_wp2_with fail
  go_at_call 111
  refine (h2 _).mono ?_
  rintro e w2 ⟨rfl, hb2⟩
  have s2 := hb2.size
  try simp at s2
  replace fc20 := bfroz2 hb2 c20 fc20
  replace fc21 := bfroz2 hb2 c21 fc21
  replace c00 := bkeep2 hb2 c00
  replace c01 := bkeep2 hb2 c01
  replace c10 := bkeep2 hb2 c10
  replace c11 := bkeep2 hb2 c11
  replace c20 := bkeep2 hb2 c20
  replace c21 := bkeep2 hb2 c21
  have l0 : w.heap.size < w2.heap.size := cell_lt c00
  have l1 : w.heap.size + 1 < w2.heap.size := cell_lt c10
  have l2 : w.heap.size + 1 + 1 < w2.heap.size := cell_lt c20
  go_wp2_with fail
  go_at_call 113
  refine (h3 _).mono ?_
  rintro e w3 ⟨rfl, hb3⟩
  have s3 := hb3.size
  try simp at s3
  replace fc20 := bfroz2 hb3 c20 fc20
  replace fc21 := bfroz2 hb3 c21 fc21
  replace c00 := bkeep2 hb3 c00
  replace c01 := bkeep2 hb3 c01
  replace c10 := bkeep2 hb3 c10
  replace c11 := bkeep2 hb3 c11
  replace c20 := bkeep2 hb3 c20
  replace c21 := bkeep2 hb3 c21
  have l0 : w.heap.size < w3.heap.size := cell_lt c00
  have l1 : w.heap.size + 1 < w3.heap.size := cell_lt c10
  have l2 : w.heap.size + 1 + 1 < w3.heap.size := cell_lt c20
  go_wp2_with fail
  go_at_call 113
  refine (h4 _).mono ?_
  rintro e w4 ⟨rfl, hb4⟩
  have s4 := hb4.size
  try simp at s4
  replace fc20 := bfroz2 hb4 c20 fc20
  replace fc21 := bfroz2 hb4 c21 fc21
  replace c00 := bkeep2 hb4 c00
  replace c01 := bkeep2 hb4 c01
  replace c10 := bkeep2 hb4 c10
  replace c11 := bkeep2 hb4 c11
  replace c20 := bkeep2 hb4 c20
  replace c21 := bkeep2 hb4 c21
  have l0 : w.heap.size < w4.heap.size := cell_lt c00
  have l1 : w.heap.size + 1 < w4.heap.size := cell_lt c10
  have l2 : w.heap.size + 1 + 1 < w4.heap.size := cell_lt c20
  go_wp2_with fail
  go_region_held3? (fun w' => w'.cell? ⟨w.heap.size, 0, none⟩ = some (.complex .f64 a b) ∧ w'.cell? ⟨w.heap.size, 1, none⟩ = some (.float .f64 r) ∧ w'.cell? ⟨w.heap.size + 1, 0, none⟩ = some (.complex .f64 c d) ∧ w'.cell? ⟨w.heap.size + 1, 1, none⟩ = some (.float .f64 s)) (((try dsimp only); (try go_split_ands); (repeat' apply And.intro) <;> first | (with_reducible assumption) | (rw [set_other (by first | omega | (simp; done) | (simp; omega)), set_other (by first | omega | (simp; done) | (simp; omega))]; (with_reducible assumption)) | (with_reducible refine bkeep2 hb ?_; first | (with_reducible assumption) | (simp [*]; done)) | go_keep)) (first | (go_at_call 115; with_reducible refine (p1 _).mono ?_; rintro e w' ⟨rfl, hb⟩; have z0 := bkeep2 hb (p := ⟨w.heap.size + 1 + 1, 0, none⟩) (v := .complex .f64 0 0) (by first | (with_reducible assumption) | simp [*]); have y0 := bfroz2 hb (p := ⟨w.heap.size + 1 + 1, 0, none⟩) (v := .complex .f64 0 0) (by first | (with_reducible assumption) | simp [*]) (by first | (with_reducible assumption) | simp [*]); have z1 := bkeep2 hb (p := ⟨w.heap.size + 1 + 1, 1, none⟩) (v := .float .f64 0) (by first | (with_reducible assumption) | simp [*]); have y1 := bfroz2 hb (p := ⟨w.heap.size + 1 + 1, 1, none⟩) (v := .float .f64 0) (by first | (with_reducible assumption) | simp [*]) (by first | (with_reducible assumption) | simp [*])) | (go_at_call 115; with_reducible refine (p2 _).mono ?_; rintro e w' ⟨rfl, hb⟩; have z0 := bkeep2 hb (p := ⟨w.heap.size + 1 + 1, 0, none⟩) (v := .complex .f64 0 0) (by first | (with_reducible assumption) | simp [*]); have y0 := bfroz2 hb (p := ⟨w.heap.size + 1 + 1, 0, none⟩) (v := .complex .f64 0 0) (by first | (with_reducible assumption) | simp [*]) (by first | (with_reducible assumption) | simp [*]); have z1 := bkeep2 hb (p := ⟨w.heap.size + 1 + 1, 1, none⟩) (v := .float .f64 0) (by first | (with_reducible assumption) | simp [*]); have y1 := bfroz2 hb (p := ⟨w.heap.size + 1 + 1, 1, none⟩) (v := .float .f64 0) (by first | (with_reducible assumption) | simp [*]) (by first | (with_reducible assumption) | simp [*])) | (go_at_call 87; with_reducible refine (bo _).mono ?_; rintro e w' ⟨rfl, hb⟩; have z0 := bkeep2 hb (p := ⟨w.heap.size + 1 + 1, 0, none⟩) (v := .complex .f64 0 0) (by first | (with_reducible assumption) | simp [*]); have y0 := bfroz2 hb (p := ⟨w.heap.size + 1 + 1, 0, none⟩) (v := .complex .f64 0 0) (by first | (with_reducible assumption) | simp [*]) (by first | (with_reducible assumption) | simp [*]); have z1 := bkeep2 hb (p := ⟨w.heap.size + 1 + 1, 1, none⟩) (v := .float .f64 0) (by first | (with_reducible assumption) | simp [*]); have y1 := bfroz2 hb (p := ⟨w.heap.size + 1 + 1, 1, none⟩) (v := .float .f64 0) (by first | (with_reducible assumption) | simp [*]) (by first | (with_reducible assumption) | simp [*])) | (go_at_call 126; with_reducible refine (rd _).mono ?_; rintro e w' ⟨rfl, hb⟩; have z0 := bkeep2 hb (p := ⟨w.heap.size + 1 + 1, 0, none⟩) (v := .complex .f64 0 0) (by first | (with_reducible assumption) | simp [*]); have y0 := bfroz2 hb (p := ⟨w.heap.size + 1 + 1, 0, none⟩) (v := .complex .f64 0 0) (by first | (with_reducible assumption) | simp [*]) (by first | (with_reducible assumption) | simp [*]); have z1 := bkeep2 hb (p := ⟨w.heap.size + 1 + 1, 1, none⟩) (v := .float .f64 0) (by first | (with_reducible assumption) | simp [*]); have y1 := bfroz2 hb (p := ⟨w.heap.size + 1 + 1, 1, none⟩) (v := .float .f64 0) (by first | (with_reducible assumption) | simp [*]) (by first | (with_reducible assumption) | simp [*])) | (go_at_call 123; with_reducible refine (ar _).mono ?_; rintro e w' ⟨rfl, hb⟩; have z0 := bkeep2 hb (p := ⟨w.heap.size + 1 + 1, 0, none⟩) (v := .complex .f64 0 0) (by first | (with_reducible assumption) | simp [*]); have y0 := bfroz2 hb (p := ⟨w.heap.size + 1 + 1, 0, none⟩) (v := .complex .f64 0 0) (by first | (with_reducible assumption) | simp [*]) (by first | (with_reducible assumption) | simp [*]); have z1 := bkeep2 hb (p := ⟨w.heap.size + 1 + 1, 1, none⟩) (v := .float .f64 0) (by first | (with_reducible assumption) | simp [*]); have y1 := bfroz2 hb (p := ⟨w.heap.size + 1 + 1, 1, none⟩) (v := .float .f64 0) (by first | (with_reducible assumption) | simp [*]) (by first | (with_reducible assumption) | simp [*])))
  all_goals (go_wp2_with fail; refine bodyPost_ret (v := .agg #[.complex .f64 k1 k2, .float .f64 k3]) (by simp [results, Tryz.results124, go_sem, *]) rfl ⟨rfl, ?_⟩; repeat (with_reducible first | exact Below.refl _ _ | assumption | refine Below.drew ?_ | refine bl_drewN ?_ _ | refine Below.setCell ?_ (by first | omega | (simp; done) | (simp; omega)) _ | refine Below.alloc ?_ (by first | omega | (simp; done) | (simp; omega)) _ | refine bl_next ?_ (by assumption) | refine bl_trans ?_ (by assumption) (by first | omega | (simp; done) | (simp; omega))))

set_option maxHeartbeats 1000000 in
theorem discMul_w (a b r c d s k1 k2 k3 : Nat)
    (h : ∀ w, Calls Tryz.prog 124 #[.agg #[.complex .f64 a b, .float .f64 r], .agg #[.complex .f64 c d, .float .f64 s], .func (.func 87) #[] #[], .func (.func 126) #[] #[]] w fun e w' => e = .returned (.agg #[.complex .f64 k1 k2, .float .f64 k3]) ∧ Below w.heap.size w w') (w : World) :
    Calls Tryz.prog 91 #[.agg #[.complex .f64 a b, .float .f64 r], .agg #[.complex .f64 c d, .float .f64 s]] w fun e w' => e = .returned (.agg #[.complex .f64 k1 k2, .float .f64 k3]) ∧ Below w.heap.size w w' := by
  go_enter Tryz.func91, Tryz.ntmps91
  go_wp2_with fail
  obtain ⟨w0, hw0⟩ : ∃ v, v = (((w.alloc (.cells #[.complex .f64 a b, .float .f64 r] 42)).alloc (.cells #[.complex .f64 c d, .float .f64 s] 42)).alloc (.cells #[.complex .f64 0 0, .float .f64 0] 42)) := ⟨_, rfl⟩
  rw [← hw0]
  have c00 : w0.cell? ⟨w.heap.size, 0, none⟩ = some (.complex .f64 a b) := by simp [hw0, go_sem]
  have c01 : w0.cell? ⟨w.heap.size, 1, none⟩ = some (.float .f64 r) := by simp [hw0, go_sem]
  have c10 : w0.cell? ⟨w.heap.size + 1, 0, none⟩ = some (.complex .f64 c d) := by simp [hw0, go_sem]
  have c11 : w0.cell? ⟨w.heap.size + 1, 1, none⟩ = some (.float .f64 s) := by simp [hw0, go_sem]
  have c20 : w0.cell? ⟨w.heap.size + 1 + 1, 0, none⟩ = some (.complex .f64 0 0) := by simp [hw0, go_sem]
  have fc20 : w0.frozen? ⟨w.heap.size + 1 + 1, 0, none⟩ = false := by simp [hw0, go_sem]
  have c21 : w0.cell? ⟨w.heap.size + 1 + 1, 1, none⟩ = some (.float .f64 0) := by simp [hw0, go_sem]
  have fc21 : w0.frozen? ⟨w.heap.size + 1 + 1, 1, none⟩ = false := by simp [hw0, go_sem]
  have s0 : w.heap.size + 1 + 1 + 1 ≤ w0.heap.size := by simp [hw0]
  have hB0 : Below w.heap.size w w0 := by
    rw [hw0]
    repeat (with_reducible first | exact Below.refl _ _ | assumption | refine Below.drew ?_ | refine bl_drewN ?_ _ | refine Below.setCell ?_ (by first | omega | (simp; done) | (simp; omega)) _ | refine Below.alloc ?_ (by first | omega | (simp; done) | (simp; omega)) _ | refine bl_next ?_ (by assumption) | refine bl_trans ?_ (by assumption) (by first | omega | (simp; done) | (simp; omega)))
  clear hw0
  go_at_call 124
  refine (h _).mono ?_
  rintro e w1 ⟨rfl, hb1⟩
  have s1 := hb1.size
  try simp at s1
  replace fc20 := bfroz2 hb1 c20 fc20
  replace fc21 := bfroz2 hb1 c21 fc21
  replace c00 := bkeep2 hb1 c00
  replace c01 := bkeep2 hb1 c01
  replace c10 := bkeep2 hb1 c10
  replace c11 := bkeep2 hb1 c11
  replace c20 := bkeep2 hb1 c20
  replace c21 := bkeep2 hb1 c21
  have l0 : w.heap.size < w1.heap.size := cell_lt c00
  have l1 : w.heap.size + 1 < w1.heap.size := cell_lt c10
  have l2 : w.heap.size + 1 + 1 < w1.heap.size := cell_lt c20
  go_wp2_with fail
  refine bodyPost_ret (v := .agg #[.complex .f64 k1 k2, .float .f64 k3]) (by simp [results, Tryz.results91, go_sem, *]) rfl ⟨rfl, ?_⟩
  repeat (with_reducible first | exact Below.refl _ _ | assumption | refine Below.drew ?_ | refine bl_drewN ?_ _ | refine Below.setCell ?_ (by first | omega | (simp; done) | (simp; omega)) _ | refine Below.alloc ?_ (by first | omega | (simp; done) | (simp; omega)) _ | refine bl_next ?_ (by assumption) | refine bl_trans ?_ (by assumption) (by first | omega | (simp; done) | (simp; omega)))

set_option maxHeartbeats 1000000 in
theorem toBox_n_w (a b r e1 e2 e3 e4 : Nat)
    (h1 : ∀ w, Calls Tryz.prog 111 #[.agg #[.complex .f64 a b, .float .f64 r]] w fun e w' => e = .returned (.bool true) ∧ Below w.heap.size w w')
    (nb : ∀ w, Calls Tryz.prog 112 #[] w fun e w' => e = .returned (.agg #[.float .f64 e1, .float .f64 e2, .float .f64 e3, .float .f64 e4]) ∧ Below w.heap.size w w') (w : World) :
    Calls Tryz.prog 84 #[.agg #[.complex .f64 a b, .float .f64 r]] w fun e w' => e = .returned (.agg #[.float .f64 e1, .float .f64 e2, .float .f64 e3, .float .f64 e4]) ∧ Below w.heap.size w w' := by
  go_enter Tryz.func84, Tryz.ntmps84
  go_wp2_with fail
  obtain ⟨w0, hw0⟩ : ∃ v, v = ((w.alloc (.cells #[.complex .f64 a b, .float .f64 r] 42)).alloc (.cells #[.float .f64 0, .float .f64 0, .float .f64 0, .float .f64 0] 39)) := ⟨_, rfl⟩
  rw [← hw0]
  have c00 : w0.cell? ⟨w.heap.size, 0, none⟩ = some (.complex .f64 a b) := by simp [hw0, go_sem]
  have c01 : w0.cell? ⟨w.heap.size, 1, none⟩ = some (.float .f64 r) := by simp [hw0, go_sem]
  have c10 : w0.cell? ⟨w.heap.size + 1, 0, none⟩ = some (.float .f64 0) := by simp [hw0, go_sem]
  have fc10 : w0.frozen? ⟨w.heap.size + 1, 0, none⟩ = false := by simp [hw0, go_sem]
  have c11 : w0.cell? ⟨w.heap.size + 1, 1, none⟩ = some (.float .f64 0) := by simp [hw0, go_sem]
  have fc11 : w0.frozen? ⟨w.heap.size + 1, 1, none⟩ = false := by simp [hw0, go_sem]
  have c12 : w0.cell? ⟨w.heap.size + 1, 2, none⟩ = some (.float .f64 0) := by simp [hw0, go_sem]
  have fc12 : w0.frozen? ⟨w.heap.size + 1, 2, none⟩ = false := by simp [hw0, go_sem]
  have c13 : w0.cell? ⟨w.heap.size + 1, 3, none⟩ = some (.float .f64 0) := by simp [hw0, go_sem]
  have fc13 : w0.frozen? ⟨w.heap.size + 1, 3, none⟩ = false := by simp [hw0, go_sem]
  have s0 : w.heap.size + 1 + 1 ≤ w0.heap.size := by simp [hw0]
  have hB0 : Below w.heap.size w w0 := by
    rw [hw0]
    repeat (with_reducible first | exact Below.refl _ _ | assumption | refine Below.drew ?_ | refine bl_drewN ?_ _ | refine Below.setCell ?_ (by first | omega | (simp; done) | (simp; omega)) _ | refine Below.alloc ?_ (by first | omega | (simp; done) | (simp; omega)) _ | refine bl_next ?_ (by assumption) | refine bl_trans ?_ (by assumption) (by first | omega | (simp; done) | (simp; omega)))
  clear hw0
  go_at_call 111
  refine (h1 _).mono ?_
  rintro e w1 ⟨rfl, hb1⟩
  have s1 := hb1.size
  try simp at s1
  replace fc10 := bfroz2 hb1 c10 fc10
  replace fc11 := bfroz2 hb1 c11 fc11
  replace fc12 := bfroz2 hb1 c12 fc12
  replace fc13 := bfroz2 hb1 c13 fc13
  replace c00 := bkeep2 hb1 c00
  replace c01 := bkeep2 hb1 c01
  replace c10 := bkeep2 hb1 c10
  replace c11 := bkeep2 hb1 c11
  replace c12 := bkeep2 hb1 c12
  replace c13 := bkeep2 hb1 c13
  have l0 : w.heap.size < w1.heap.size := cell_lt c00
  have l1 : w.heap.size + 1 < w1.heap.size := cell_lt c10
  go_wp2_with fail
  go_at_call 112
  refine (nb _).mono ?_
  rintro e w2 ⟨rfl, hb2⟩
  have s2 := hb2.size
  try simp at s2
  replace fc10 := bfroz2 hb2 c10 fc10
  replace fc11 := bfroz2 hb2 c11 fc11
  replace fc12 := bfroz2 hb2 c12 fc12
  replace fc13 := bfroz2 hb2 c13 fc13
  replace c00 := bkeep2 hb2 c00
  replace c01 := bkeep2 hb2 c01
  replace c10 := bkeep2 hb2 c10
  replace c11 := bkeep2 hb2 c11
  replace c12 := bkeep2 hb2 c12
  replace c13 := bkeep2 hb2 c13
  have l0 : w.heap.size < w2.heap.size := cell_lt c00
  have l1 : w.heap.size + 1 < w2.heap.size := cell_lt c10
  go_wp2_with fail
  refine bodyPost_ret (v := .agg #[.float .f64 e1, .float .f64 e2, .float .f64 e3, .float .f64 e4]) (by simp [results, Tryz.results84, go_sem, *]) rfl ⟨rfl, ?_⟩
  repeat (with_reducible first | exact Below.refl _ _ | assumption | refine Below.drew ?_ | refine bl_drewN ?_ _ | refine Below.setCell ?_ (by first | omega | (simp; done) | (simp; omega)) _ | refine Below.alloc ?_ (by first | omega | (simp; done) | (simp; omega)) _ | refine bl_next ?_ (by assumption) | refine bl_trans ?_ (by assumption) (by first | omega | (simp; done) | (simp; omega)))

set_option maxHeartbeats 1000000 in
theorem toBox_a_w (a b r e1 e2 e3 e4 : Nat)
    (h1 : ∀ w, Calls Tryz.prog 111 #[.agg #[.complex .f64 a b, .float .f64 r]] w fun e w' => e = .returned (.bool false) ∧ Below w.heap.size w w')
    (h2 : ∀ w, Calls Tryz.prog 113 #[.agg #[.complex .f64 a b, .float .f64 r]] w fun e w' => e = .returned (.bool true) ∧ Below w.heap.size w w')
    (nb : ∀ w, Calls Tryz.prog 114 #[] w fun e w' => e = .returned (.agg #[.float .f64 e1, .float .f64 e2, .float .f64 e3, .float .f64 e4]) ∧ Below w.heap.size w w') (w : World) :
    Calls Tryz.prog 84 #[.agg #[.complex .f64 a b, .float .f64 r]] w fun e w' => e = .returned (.agg #[.float .f64 e1, .float .f64 e2, .float .f64 e3, .float .f64 e4]) ∧ Below w.heap.size w w' := by
  go_enter Tryz.func84, Tryz.ntmps84
  go_wp2_with fail
  obtain ⟨w0, hw0⟩ : ∃ v, v = ((w.alloc (.cells #[.complex .f64 a b, .float .f64 r] 42)).alloc (.cells #[.float .f64 0, .float .f64 0, .float .f64 0, .float .f64 0] 39)) := ⟨_, rfl⟩
  rw [← hw0]
  have c00 : w0.cell? ⟨w.heap.size, 0, none⟩ = some (.complex .f64 a b) := by simp [hw0, go_sem]
  have c01 : w0.cell? ⟨w.heap.size, 1, none⟩ = some (.float .f64 r) := by simp [hw0, go_sem]
  have c10 : w0.cell? ⟨w.heap.size + 1, 0, none⟩ = some (.float .f64 0) := by simp [hw0, go_sem]
  have fc10 : w0.frozen? ⟨w.heap.size + 1, 0, none⟩ = false := by simp [hw0, go_sem]
  have c11 : w0.cell? ⟨w.heap.size + 1, 1, none⟩ = some (.float .f64 0) := by simp [hw0, go_sem]
  have fc11 : w0.frozen? ⟨w.heap.size + 1, 1, none⟩ = false := by simp [hw0, go_sem]
  have c12 : w0.cell? ⟨w.heap.size + 1, 2, none⟩ = some (.float .f64 0) := by simp [hw0, go_sem]
  have fc12 : w0.frozen? ⟨w.heap.size + 1, 2, none⟩ = false := by simp [hw0, go_sem]
  have c13 : w0.cell? ⟨w.heap.size + 1, 3, none⟩ = some (.float .f64 0) := by simp [hw0, go_sem]
  have fc13 : w0.frozen? ⟨w.heap.size + 1, 3, none⟩ = false := by simp [hw0, go_sem]
  have s0 : w.heap.size + 1 + 1 ≤ w0.heap.size := by simp [hw0]
  have hB0 : Below w.heap.size w w0 := by
    rw [hw0]
    repeat (with_reducible first | exact Below.refl _ _ | assumption | refine Below.drew ?_ | refine bl_drewN ?_ _ | refine Below.setCell ?_ (by first | omega | (simp; done) | (simp; omega)) _ | refine Below.alloc ?_ (by first | omega | (simp; done) | (simp; omega)) _ | refine bl_next ?_ (by assumption) | refine bl_trans ?_ (by assumption) (by first | omega | (simp; done) | (simp; omega)))
  clear hw0
  go_at_call 111
  refine (h1 _).mono ?_
  rintro e w1 ⟨rfl, hb1⟩
  have s1 := hb1.size
  try simp at s1
  replace fc10 := bfroz2 hb1 c10 fc10
  replace fc11 := bfroz2 hb1 c11 fc11
  replace fc12 := bfroz2 hb1 c12 fc12
  replace fc13 := bfroz2 hb1 c13 fc13
  replace c00 := bkeep2 hb1 c00
  replace c01 := bkeep2 hb1 c01
  replace c10 := bkeep2 hb1 c10
  replace c11 := bkeep2 hb1 c11
  replace c12 := bkeep2 hb1 c12
  replace c13 := bkeep2 hb1 c13
  have l0 : w.heap.size < w1.heap.size := cell_lt c00
  have l1 : w.heap.size + 1 < w1.heap.size := cell_lt c10
  go_wp2_with fail
  go_at_call 113
  refine (h2 _).mono ?_
  rintro e w2 ⟨rfl, hb2⟩
  have s2 := hb2.size
  try simp at s2
  replace fc10 := bfroz2 hb2 c10 fc10
  replace fc11 := bfroz2 hb2 c11 fc11
  replace fc12 := bfroz2 hb2 c12 fc12
  replace fc13 := bfroz2 hb2 c13 fc13
  replace c00 := bkeep2 hb2 c00
  replace c01 := bkeep2 hb2 c01
  replace c10 := bkeep2 hb2 c10
  replace c11 := bkeep2 hb2 c11
  replace c12 := bkeep2 hb2 c12
  replace c13 := bkeep2 hb2 c13
  have l0 : w.heap.size < w2.heap.size := cell_lt c00
  have l1 : w.heap.size + 1 < w2.heap.size := cell_lt c10
  go_wp2_with fail
  go_at_call 114
  refine (nb _).mono ?_
  rintro e w3 ⟨rfl, hb3⟩
  have s3 := hb3.size
  try simp at s3
  replace fc10 := bfroz2 hb3 c10 fc10
  replace fc11 := bfroz2 hb3 c11 fc11
  replace fc12 := bfroz2 hb3 c12 fc12
  replace fc13 := bfroz2 hb3 c13 fc13
  replace c00 := bkeep2 hb3 c00
  replace c01 := bkeep2 hb3 c01
  replace c10 := bkeep2 hb3 c10
  replace c11 := bkeep2 hb3 c11
  replace c12 := bkeep2 hb3 c12
  replace c13 := bkeep2 hb3 c13
  have l0 : w.heap.size < w3.heap.size := cell_lt c00
  have l1 : w.heap.size + 1 < w3.heap.size := cell_lt c10
  go_wp2_with fail
  refine bodyPost_ret (v := .agg #[.float .f64 e1, .float .f64 e2, .float .f64 e3, .float .f64 e4]) (by simp [results, Tryz.results84, go_sem, *]) rfl ⟨rfl, ?_⟩
  repeat (with_reducible first | exact Below.refl _ _ | assumption | refine Below.drew ?_ | refine bl_drewN ?_ _ | refine Below.setCell ?_ (by first | omega | (simp; done) | (simp; omega)) _ | refine Below.alloc ?_ (by first | omega | (simp; done) | (simp; omega)) _ | refine bl_next ?_ (by assumption) | refine bl_trans ?_ (by assumption) (by first | omega | (simp; done) | (simp; omega)))

set_option maxHeartbeats 1000000 in
theorem toBox_w (a b r e1 e2 e3 e4 X1 X2 X3 X4 Y1 Y2 Y3 Y4 : Nat)
    (h1 : ∀ w, Calls Tryz.prog 111 #[.agg #[.complex .f64 a b, .float .f64 r]] w fun e w' => e = .returned (.bool false) ∧ Below w.heap.size w w')
    (h2 : ∀ w, Calls Tryz.prog 113 #[.agg #[.complex .f64 a b, .float .f64 r]] w fun e w' => e = .returned (.bool false) ∧ Below w.heap.size w w')
    (p1 : ∀ w, Calls Tryz.prog 115 #[.complex .f64 a b] w fun e w' => e = .returned (.agg #[.float .f64 X1, .float .f64 X2, .float .f64 X3, .float .f64 X4]) ∧ Below w.heap.size w w')
    (sq : ∀ w, Calls Tryz.prog 116 #[.float .f64 r] w fun e w' => e = .returned (.agg #[.float .f64 Y1, .float .f64 Y2, .float .f64 Y3, .float .f64 Y4]) ∧ Below w.heap.size w w')
    (bo : ∀ w, Calls Tryz.prog 85 #[.agg #[.float .f64 X1, .float .f64 X2, .float .f64 X3, .float .f64 X4], .agg #[.float .f64 Y1, .float .f64 Y2, .float .f64 Y3, .float .f64 Y4]] w fun e w' => e = .returned (.agg #[.float .f64 e1, .float .f64 e2, .float .f64 e3, .float .f64 e4]) ∧ Below w.heap.size w w') (w : World) :
    Calls Tryz.prog 84 #[.agg #[.complex .f64 a b, .float .f64 r]] w fun e w' => e = .returned (.agg #[.float .f64 e1, .float .f64 e2, .float .f64 e3, .float .f64 e4]) ∧ Below w.heap.size w w' := by
  go_enter Tryz.func84, Tryz.ntmps84
  go_wp2_with fail
  obtain ⟨w0, hw0⟩ : ∃ v, v = ((w.alloc (.cells #[.complex .f64 a b, .float .f64 r] 42)).alloc (.cells #[.float .f64 0, .float .f64 0, .float .f64 0, .float .f64 0] 39)) := ⟨_, rfl⟩
  rw [← hw0]
  have c00 : w0.cell? ⟨w.heap.size, 0, none⟩ = some (.complex .f64 a b) := by simp [hw0, go_sem]
  have c01 : w0.cell? ⟨w.heap.size, 1, none⟩ = some (.float .f64 r) := by simp [hw0, go_sem]
  have c10 : w0.cell? ⟨w.heap.size + 1, 0, none⟩ = some (.float .f64 0) := by simp [hw0, go_sem]
  have fc10 : w0.frozen? ⟨w.heap.size + 1, 0, none⟩ = false := by simp [hw0, go_sem]
  have c11 : w0.cell? ⟨w.heap.size + 1, 1, none⟩ = some (.float .f64 0) := by simp [hw0, go_sem]
  have fc11 : w0.frozen? ⟨w.heap.size + 1, 1, none⟩ = false := by simp [hw0, go_sem]
  have c12 : w0.cell? ⟨w.heap.size + 1, 2, none⟩ = some (.float .f64 0) := by simp [hw0, go_sem]
  have fc12 : w0.frozen? ⟨w.heap.size + 1, 2, none⟩ = false := by simp [hw0, go_sem]
  have c13 : w0.cell? ⟨w.heap.size + 1, 3, none⟩ = some (.float .f64 0) := by simp [hw0, go_sem]
  have fc13 : w0.frozen? ⟨w.heap.size + 1, 3, none⟩ = false := by simp [hw0, go_sem]
  have s0 : w.heap.size + 1 + 1 ≤ w0.heap.size := by simp [hw0]
  have hB0 : Below w.heap.size w w0 := by
    rw [hw0]
    repeat (with_reducible first | exact Below.refl _ _ | assumption | refine Below.drew ?_ | refine bl_drewN ?_ _ | refine Below.setCell ?_ (by first | omega | (simp; done) | (simp; omega)) _ | refine Below.alloc ?_ (by first | omega | (simp; done) | (simp; omega)) _ | refine bl_next ?_ (by assumption) | refine bl_trans ?_ (by assumption) (by first | omega | (simp; done) | (simp; omega)))
  clear hw0
  go_at_call 111
  refine (h1 _).mono ?_
  rintro e w1 ⟨rfl, hb1⟩
  have s1 := hb1.size
  try simp at s1
  replace fc10 := bfroz2 hb1 c10 fc10
  replace fc11 := bfroz2 hb1 c11 fc11
  replace fc12 := bfroz2 hb1 c12 fc12
  replace fc13 := bfroz2 hb1 c13 fc13
  replace c00 := bkeep2 hb1 c00
  replace c01 := bkeep2 hb1 c01
  replace c10 := bkeep2 hb1 c10
  replace c11 := bkeep2 hb1 c11
  replace c12 := bkeep2 hb1 c12
  replace c13 := bkeep2 hb1 c13
  have l0 : w.heap.size < w1.heap.size := cell_lt c00
  have l1 : w.heap.size + 1 < w1.heap.size := cell_lt c10
  go_wp2_with fail
  go_at_call 113
  refine (h2 _).mono ?_
  rintro e w2 ⟨rfl, hb2⟩
  have s2 := hb2.size
  try simp at s2
  replace fc10 := bfroz2 hb2 c10 fc10
  replace fc11 := bfroz2 hb2 c11 fc11
  replace fc12 := bfroz2 hb2 c12 fc12
  replace fc13 := bfroz2 hb2 c13 fc13
  replace c00 := bkeep2 hb2 c00
  replace c01 := bkeep2 hb2 c01
  replace c10 := bkeep2 hb2 c10
  replace c11 := bkeep2 hb2 c11
  replace c12 := bkeep2 hb2 c12
  replace c13 := bkeep2 hb2 c13
  have l0 : w.heap.size < w2.heap.size := cell_lt c00
  have l1 : w.heap.size + 1 < w2.heap.size := cell_lt c10
  go_wp2_with fail
  go_region_held3 (fun w' => w'.cell? ⟨w.heap.size, 0, none⟩ = some (.complex .f64 a b) ∧ w'.cell? ⟨w.heap.size, 1, none⟩ = some (.float .f64 r)) (((try dsimp only); (try go_split_ands); (repeat' apply And.intro) <;> first | (with_reducible assumption) | (rw [set_other (by first | omega | (simp; done) | (simp; omega)), set_other (by first | omega | (simp; done) | (simp; omega)), set_other (by first | omega | (simp; done) | (simp; omega)), set_other (by first | omega | (simp; done) | (simp; omega))]; (with_reducible assumption)) | (with_reducible refine bkeep2 hb ?_; first | (with_reducible assumption) | (simp [*]; done)) | go_keep)) (first | (go_at_call 115; with_reducible refine (p1 _).mono ?_; rintro e w' ⟨rfl, hb⟩; have z0 := bkeep2 hb (p := ⟨w.heap.size + 1, 0, none⟩) (v := .float .f64 0) (by first | (with_reducible assumption) | simp [*]); have y0 := bfroz2 hb (p := ⟨w.heap.size + 1, 0, none⟩) (v := .float .f64 0) (by first | (with_reducible assumption) | simp [*]) (by first | (with_reducible assumption) | simp [*]); have z1 := bkeep2 hb (p := ⟨w.heap.size + 1, 1, none⟩) (v := .float .f64 0) (by first | (with_reducible assumption) | simp [*]); have y1 := bfroz2 hb (p := ⟨w.heap.size + 1, 1, none⟩) (v := .float .f64 0) (by first | (with_reducible assumption) | simp [*]) (by first | (with_reducible assumption) | simp [*]); have z2 := bkeep2 hb (p := ⟨w.heap.size + 1, 2, none⟩) (v := .float .f64 0) (by first | (with_reducible assumption) | simp [*]); have y2 := bfroz2 hb (p := ⟨w.heap.size + 1, 2, none⟩) (v := .float .f64 0) (by first | (with_reducible assumption) | simp [*]) (by first | (with_reducible assumption) | simp [*]); have z3 := bkeep2 hb (p := ⟨w.heap.size + 1, 3, none⟩) (v := .float .f64 0) (by first | (with_reducible assumption) | simp [*]); have y3 := bfroz2 hb (p := ⟨w.heap.size + 1, 3, none⟩) (v := .float .f64 0) (by first | (with_reducible assumption) | simp [*]) (by first | (with_reducible assumption) | simp [*])) | (go_at_call 116; with_reducible refine (sq _).mono ?_; rintro e w' ⟨rfl, hb⟩; have z0 := bkeep2 hb (p := ⟨w.heap.size + 1, 0, none⟩) (v := .float .f64 0) (by first | (with_reducible assumption) | simp [*]); have y0 := bfroz2 hb (p := ⟨w.heap.size + 1, 0, none⟩) (v := .float .f64 0) (by first | (with_reducible assumption) | simp [*]) (by first | (with_reducible assumption) | simp [*]); have z1 := bkeep2 hb (p := ⟨w.heap.size + 1, 1, none⟩) (v := .float .f64 0) (by first | (with_reducible assumption) | simp [*]); have y1 := bfroz2 hb (p := ⟨w.heap.size + 1, 1, none⟩) (v := .float .f64 0) (by first | (with_reducible assumption) | simp [*]) (by first | (with_reducible assumption) | simp [*]); have z2 := bkeep2 hb (p := ⟨w.heap.size + 1, 2, none⟩) (v := .float .f64 0) (by first | (with_reducible assumption) | simp [*]); have y2 := bfroz2 hb (p := ⟨w.heap.size + 1, 2, none⟩) (v := .float .f64 0) (by first | (with_reducible assumption) | simp [*]) (by first | (with_reducible assumption) | simp [*]); have z3 := bkeep2 hb (p := ⟨w.heap.size + 1, 3, none⟩) (v := .float .f64 0) (by first | (with_reducible assumption) | simp [*]); have y3 := bfroz2 hb (p := ⟨w.heap.size + 1, 3, none⟩) (v := .float .f64 0) (by first | (with_reducible assumption) | simp [*]) (by first | (with_reducible assumption) | simp [*])) | (go_at_call 85; with_reducible refine (bo _).mono ?_; rintro e w' ⟨rfl, hb⟩; have z0 := bkeep2 hb (p := ⟨w.heap.size + 1, 0, none⟩) (v := .float .f64 0) (by first | (with_reducible assumption) | simp [*]); have y0 := bfroz2 hb (p := ⟨w.heap.size + 1, 0, none⟩) (v := .float .f64 0) (by first | (with_reducible assumption) | simp [*]) (by first | (with_reducible assumption) | simp [*]); have z1 := bkeep2 hb (p := ⟨w.heap.size + 1, 1, none⟩) (v := .float .f64 0) (by first | (with_reducible assumption) | simp [*]); have y1 := bfroz2 hb (p := ⟨w.heap.size + 1, 1, none⟩) (v := .float .f64 0) (by first | (with_reducible assumption) | simp [*]) (by first | (with_reducible assumption) | simp [*]); have z2 := bkeep2 hb (p := ⟨w.heap.size + 1, 2, none⟩) (v := .float .f64 0) (by first | (with_reducible assumption) | simp [*]); have y2 := bfroz2 hb (p := ⟨w.heap.size + 1, 2, none⟩) (v := .float .f64 0) (by first | (with_reducible assumption) | simp [*]) (by first | (with_reducible assumption) | simp [*]); have z3 := bkeep2 hb (p := ⟨w.heap.size + 1, 3, none⟩) (v := .float .f64 0) (by first | (with_reducible assumption) | simp [*]); have y3 := bfroz2 hb (p := ⟨w.heap.size + 1, 3, none⟩) (v := .float .f64 0) (by first | (with_reducible assumption) | simp [*]) (by first | (with_reducible assumption) | simp [*])))
  all_goals (go_wp2_with fail; refine bodyPost_ret (v := .agg #[.float .f64 e1, .float .f64 e2, .float .f64 e3, .float .f64 e4]) (by simp [results, Tryz.results84, go_sem, *]) rfl ⟨rfl, ?_⟩; repeat (with_reducible first | exact Below.refl _ _ | assumption | refine Below.drew ?_ | refine bl_drewN ?_ _ | refine Below.setCell ?_ (by first | omega | (simp; done) | (simp; omega)) _ | refine Below.alloc ?_ (by first | omega | (simp; done) | (simp; omega)) _ | refine bl_next ?_ (by assumption) | refine bl_trans ?_ (by assumption) (by first | omega | (simp; done) | (simp; omega))))

set_option maxHeartbeats 1000000 in
theorem toDisc_1_w (X1 X2 X3 X4 k1 k2 k3 : Nat)
    (n1 : ∀ w, Calls Tryz.prog 121 #[.agg #[.float .f64 X1, .float .f64 X2]] w fun e w' => e = .returned (.bool true) ∧ Below w.heap.size w w')
    (nd : ∀ w, Calls Tryz.prog 122 #[] w fun e w' => e = .returned (.agg #[.complex .f64 k1 k2, .float .f64 k3]) ∧ Below w.heap.size w w') (w : World) :
    Calls Tryz.prog 88 #[.agg #[.float .f64 X1, .float .f64 X2, .float .f64 X3, .float .f64 X4]] w fun e w' => e = .returned (.agg #[.complex .f64 k1 k2, .float .f64 k3]) ∧ Below w.heap.size w w' := by
  go_enter Tryz.func88, Tryz.ntmps88
  go_wp2_with fail
  obtain ⟨w0, hw0⟩ : ∃ v, v = ((w.alloc (.cells #[.float .f64 X1, .float .f64 X2, .float .f64 X3, .float .f64 X4] 39)).alloc (.cells #[.complex .f64 0 0, .float .f64 0] 42)) := ⟨_, rfl⟩
  rw [← hw0]
  have c00 : w0.cell? ⟨w.heap.size, 0, none⟩ = some (.float .f64 X1) := by simp [hw0, go_sem]
  have c01 : w0.cell? ⟨w.heap.size, 1, none⟩ = some (.float .f64 X2) := by simp [hw0, go_sem]
  have c02 : w0.cell? ⟨w.heap.size, 2, none⟩ = some (.float .f64 X3) := by simp [hw0, go_sem]
  have c03 : w0.cell? ⟨w.heap.size, 3, none⟩ = some (.float .f64 X4) := by simp [hw0, go_sem]
  have c10 : w0.cell? ⟨w.heap.size + 1, 0, none⟩ = some (.complex .f64 0 0) := by simp [hw0, go_sem]
  have fc10 : w0.frozen? ⟨w.heap.size + 1, 0, none⟩ = false := by simp [hw0, go_sem]
  have c11 : w0.cell? ⟨w.heap.size + 1, 1, none⟩ = some (.float .f64 0) := by simp [hw0, go_sem]
  have fc11 : w0.frozen? ⟨w.heap.size + 1, 1, none⟩ = false := by simp [hw0, go_sem]
  have s0 : w.heap.size + 1 + 1 ≤ w0.heap.size := by simp [hw0]
  have hB0 : Below w.heap.size w w0 := by
    rw [hw0]
    repeat (with_reducible first | exact Below.refl _ _ | assumption | refine Below.drew ?_ | refine bl_drewN ?_ _ | refine Below.setCell ?_ (by first | omega | (simp; done) | (simp; omega)) _ | refine Below.alloc ?_ (by first | omega | (simp; done) | (simp; omega)) _ | refine bl_next ?_ (by assumption) | refine bl_trans ?_ (by assumption) (by first | omega | (simp; done) | (simp; omega)))
  clear hw0
  go_at_call 121
  refine (n1 _).mono ?_
  rintro e w1 ⟨rfl, hb1⟩
  have s1 := hb1.size
  try simp at s1
  replace fc10 := bfroz2 hb1 c10 fc10
  replace fc11 := bfroz2 hb1 c11 fc11
  replace c00 := bkeep2 hb1 c00
  replace c01 := bkeep2 hb1 c01
  replace c02 := bkeep2 hb1 c02
  replace c03 := bkeep2 hb1 c03
  replace c10 := bkeep2 hb1 c10
  replace c11 := bkeep2 hb1 c11
  have l0 : w.heap.size < w1.heap.size := cell_lt c00
  have l1 : w.heap.size + 1 < w1.heap.size := cell_lt c10
  go_wp2_with fail
  go_at_call 122
  refine (nd _).mono ?_
  rintro e w2 ⟨rfl, hb2⟩
  have s2 := hb2.size
  try simp at s2
  replace fc10 := bfroz2 hb2 c10 fc10
  replace fc11 := bfroz2 hb2 c11 fc11
  replace c00 := bkeep2 hb2 c00
  replace c01 := bkeep2 hb2 c01
  replace c02 := bkeep2 hb2 c02
  replace c03 := bkeep2 hb2 c03
  replace c10 := bkeep2 hb2 c10
  replace c11 := bkeep2 hb2 c11
  have l0 : w.heap.size < w2.heap.size := cell_lt c00
  have l1 : w.heap.size + 1 < w2.heap.size := cell_lt c10
  go_wp2_with fail
  refine bodyPost_ret (v := .agg #[.complex .f64 k1 k2, .float .f64 k3]) (by simp [results, Tryz.results88, go_sem, *]) rfl ⟨rfl, ?_⟩
  repeat (with_reducible first | exact Below.refl _ _ | assumption | refine Below.drew ?_ | refine bl_drewN ?_ _ | refine Below.setCell ?_ (by first | omega | (simp; done) | (simp; omega)) _ | refine Below.alloc ?_ (by first | omega | (simp; done) | (simp; omega)) _ | refine bl_next ?_ (by assumption) | refine bl_trans ?_ (by assumption) (by first | omega | (simp; done) | (simp; omega)))

set_option maxHeartbeats 1000000 in
theorem toDisc_2_w (X1 X2 X3 X4 k1 k2 k3 : Nat)
    (n1 : ∀ w, Calls Tryz.prog 121 #[.agg #[.float .f64 X1, .float .f64 X2]] w fun e w' => e = .returned (.bool false) ∧ Below w.heap.size w w')
    (n2 : ∀ w, Calls Tryz.prog 121 #[.agg #[.float .f64 X3, .float .f64 X4]] w fun e w' => e = .returned (.bool true) ∧ Below w.heap.size w w')
    (nd : ∀ w, Calls Tryz.prog 122 #[] w fun e w' => e = .returned (.agg #[.complex .f64 k1 k2, .float .f64 k3]) ∧ Below w.heap.size w w') (w : World) :
    Calls Tryz.prog 88 #[.agg #[.float .f64 X1, .float .f64 X2, .float .f64 X3, .float .f64 X4]] w fun e w' => e = .returned (.agg #[.complex .f64 k1 k2, .float .f64 k3]) ∧ Below w.heap.size w w' := by
  go_enter Tryz.func88, Tryz.ntmps88
  go_wp2_with fail
  obtain ⟨w0, hw0⟩ : ∃ v, v = ((w.alloc (.cells #[.float .f64 X1, .float .f64 X2, .float .f64 X3, .float .f64 X4] 39)).alloc (.cells #[.complex .f64 0 0, .float .f64 0] 42)) := ⟨_, rfl⟩
  rw [← hw0]
  have c00 : w0.cell? ⟨w.heap.size, 0, none⟩ = some (.float .f64 X1) := by simp [hw0, go_sem]
  have c01 : w0.cell? ⟨w.heap.size, 1, none⟩ = some (.float .f64 X2) := by simp [hw0, go_sem]
  have c02 : w0.cell? ⟨w.heap.size, 2, none⟩ = some (.float .f64 X3) := by simp [hw0, go_sem]
  have c03 : w0.cell? ⟨w.heap.size, 3, none⟩ = some (.float .f64 X4) := by simp [hw0, go_sem]
  have c10 : w0.cell? ⟨w.heap.size + 1, 0, none⟩ = some (.complex .f64 0 0) := by simp [hw0, go_sem]
  have fc10 : w0.frozen? ⟨w.heap.size + 1, 0, none⟩ = false := by simp [hw0, go_sem]
  have c11 : w0.cell? ⟨w.heap.size + 1, 1, none⟩ = some (.float .f64 0) := by simp [hw0, go_sem]
  have fc11 : w0.frozen? ⟨w.heap.size + 1, 1, none⟩ = false := by simp [hw0, go_sem]
  have s0 : w.heap.size + 1 + 1 ≤ w0.heap.size := by simp [hw0]
  have hB0 : Below w.heap.size w w0 := by
    rw [hw0]
    repeat (with_reducible first | exact Below.refl _ _ | assumption | refine Below.drew ?_ | refine bl_drewN ?_ _ | refine Below.setCell ?_ (by first | omega | (simp; done) | (simp; omega)) _ | refine Below.alloc ?_ (by first | omega | (simp; done) | (simp; omega)) _ | refine bl_next ?_ (by assumption) | refine bl_trans ?_ (by assumption) (by first | omega | (simp; done) | (simp; omega)))
  clear hw0
  go_at_call 121
  refine (n1 _).mono ?_
  rintro e w1 ⟨rfl, hb1⟩
  have s1 := hb1.size
  try simp at s1
  replace fc10 := bfroz2 hb1 c10 fc10
  replace fc11 := bfroz2 hb1 c11 fc11
  replace c00 := bkeep2 hb1 c00
  replace c01 := bkeep2 hb1 c01
  replace c02 := bkeep2 hb1 c02
  replace c03 := bkeep2 hb1 c03
  replace c10 := bkeep2 hb1 c10
  replace c11 := bkeep2 hb1 c11
  have l0 : w.heap.size < w1.heap.size := cell_lt c00
  have l1 : w.heap.size + 1 < w1.heap.size := cell_lt c10
  go_wp2_with fail
  go_at_call 121
  refine (n2 _).mono ?_
  rintro e w2 ⟨rfl, hb2⟩
  have s2 := hb2.size
  try simp at s2
  replace fc10 := bfroz2 hb2 c10 fc10
  replace fc11 := bfroz2 hb2 c11 fc11
  replace c00 := bkeep2 hb2 c00
  replace c01 := bkeep2 hb2 c01
  replace c02 := bkeep2 hb2 c02
  replace c03 := bkeep2 hb2 c03
  replace c10 := bkeep2 hb2 c10
  replace c11 := bkeep2 hb2 c11
  have l0 : w.heap.size < w2.heap.size := cell_lt c00
  have l1 : w.heap.size + 1 < w2.heap.size := cell_lt c10
  go_wp2_with fail
  go_at_call 122
  refine (nd _).mono ?_
  rintro e w3 ⟨rfl, hb3⟩
  have s3 := hb3.size
  try simp at s3
  replace fc10 := bfroz2 hb3 c10 fc10
  replace fc11 := bfroz2 hb3 c11 fc11
  replace c00 := bkeep2 hb3 c00
  replace c01 := bkeep2 hb3 c01
  replace c02 := bkeep2 hb3 c02
  replace c03 := bkeep2 hb3 c03
  replace c10 := bkeep2 hb3 c10
  replace c11 := bkeep2 hb3 c11
  have l0 : w.heap.size < w3.heap.size := cell_lt c00
  have l1 : w.heap.size + 1 < w3.heap.size := cell_lt c10
  go_wp2_with fail
  refine bodyPost_ret (v := .agg #[.complex .f64 k1 k2, .float .f64 k3]) (by simp [results, Tryz.results88, go_sem, *]) rfl ⟨rfl, ?_⟩
  repeat (with_reducible first | exact Below.refl _ _ | assumption | refine Below.drew ?_ | refine bl_drewN ?_ _ | refine Below.setCell ?_ (by first | omega | (simp; done) | (simp; omega)) _ | refine Below.alloc ?_ (by first | omega | (simp; done) | (simp; omega)) _ | refine bl_next ?_ (by assumption) | refine bl_trans ?_ (by assumption) (by first | omega | (simp; done) | (simp; omega)))

set_option maxHeartbeats 1000000 in
theorem toDisc_w (X1 X2 X3 X4 k1 k2 k3 : Nat)
    (n1 : ∀ w, Calls Tryz.prog 121 #[.agg #[.float .f64 X1, .float .f64 X2]] w fun e w' => e = .returned (.bool false) ∧ Below w.heap.size w w')
    (n2 : ∀ w, Calls Tryz.prog 121 #[.agg #[.float .f64 X3, .float .f64 X4]] w fun e w' => e = .returned (.bool false) ∧ Below w.heap.size w w')
    (ar : ∀ w, Calls Tryz.prog 123 #[.agg #[.float .f64 X1, .float .f64 X2, .float .f64 X3, .float .f64 X4], .float .f64 0] w fun e w' => e = .returned (.agg #[.complex .f64 k1 k2, .float .f64 k3]) ∧ Below w.heap.size w w') (w : World) :
    Calls Tryz.prog 88 #[.agg #[.float .f64 X1, .float .f64 X2, .float .f64 X3, .float .f64 X4]] w fun e w' => e = .returned (.agg #[.complex .f64 k1 k2, .float .f64 k3]) ∧ Below w.heap.size w w' := by
  go_enter Tryz.func88, Tryz.ntmps88
  go_wp2_with fail
  obtain ⟨w0, hw0⟩ : ∃ v, v = ((w.alloc (.cells #[.float .f64 X1, .float .f64 X2, .float .f64 X3, .float .f64 X4] 39)).alloc (.cells #[.complex .f64 0 0, .float .f64 0] 42)) := ⟨_, rfl⟩
  rw [← hw0]
  have c00 : w0.cell? ⟨w.heap.size, 0, none⟩ = some (.float .f64 X1) := by simp [hw0, go_sem]
  have c01 : w0.cell? ⟨w.heap.size, 1, none⟩ = some (.float .f64 X2) := by simp [hw0, go_sem]
  have c02 : w0.cell? ⟨w.heap.size, 2, none⟩ = some (.float .f64 X3) := by simp [hw0, go_sem]
  have c03 : w0.cell? ⟨w.heap.size, 3, none⟩ = some (.float .f64 X4) := by simp [hw0, go_sem]
  have c10 : w0.cell? ⟨w.heap.size + 1, 0, none⟩ = some (.complex .f64 0 0) := by simp [hw0, go_sem]
  have fc10 : w0.frozen? ⟨w.heap.size + 1, 0, none⟩ = false := by simp [hw0, go_sem]
  have c11 : w0.cell? ⟨w.heap.size + 1, 1, none⟩ = some (.float .f64 0) := by simp [hw0, go_sem]
  have fc11 : w0.frozen? ⟨w.heap.size + 1, 1, none⟩ = false := by simp [hw0, go_sem]
  have s0 : w.heap.size + 1 + 1 ≤ w0.heap.size := by simp [hw0]
  have hB0 : Below w.heap.size w w0 := by
    rw [hw0]
    repeat (with_reducible first | exact Below.refl _ _ | assumption | refine Below.drew ?_ | refine bl_drewN ?_ _ | refine Below.setCell ?_ (by first | omega | (simp; done) | (simp; omega)) _ | refine Below.alloc ?_ (by first | omega | (simp; done) | (simp; omega)) _ | refine bl_next ?_ (by assumption) | refine bl_trans ?_ (by assumption) (by first | omega | (simp; done) | (simp; omega)))
  clear hw0
  go_at_call 121
  refine (n1 _).mono ?_
  rintro e w1 ⟨rfl, hb1⟩
  have s1 := hb1.size
  try simp at s1
  replace fc10 := bfroz2 hb1 c10 fc10
  replace fc11 := bfroz2 hb1 c11 fc11
  replace c00 := bkeep2 hb1 c00
  replace c01 := bkeep2 hb1 c01
  replace c02 := bkeep2 hb1 c02
  replace c03 := bkeep2 hb1 c03
  replace c10 := bkeep2 hb1 c10
  replace c11 := bkeep2 hb1 c11
  have l0 : w.heap.size < w1.heap.size := cell_lt c00
  have l1 : w.heap.size + 1 < w1.heap.size := cell_lt c10
  go_wp2_with fail
  go_at_call 121
  refine (n2 _).mono ?_
  rintro e w2 ⟨rfl, hb2⟩
  have s2 := hb2.size
  try simp at s2
  replace fc10 := bfroz2 hb2 c10 fc10
  replace fc11 := bfroz2 hb2 c11 fc11
  replace c00 := bkeep2 hb2 c00
  replace c01 := bkeep2 hb2 c01
  replace c02 := bkeep2 hb2 c02
  replace c03 := bkeep2 hb2 c03
  replace c10 := bkeep2 hb2 c10
  replace c11 := bkeep2 hb2 c11
  have l0 : w.heap.size < w2.heap.size := cell_lt c00
  have l1 : w.heap.size + 1 < w2.heap.size := cell_lt c10
  go_wp2_with fail
  go_at_call 123
  refine (ar _).mono ?_
  rintro e w3 ⟨rfl, hb3⟩
  have s3 := hb3.size
  try simp at s3
  replace fc10 := bfroz2 hb3 c10 fc10
  replace fc11 := bfroz2 hb3 c11 fc11
  replace c00 := bkeep2 hb3 c00
  replace c01 := bkeep2 hb3 c01
  replace c02 := bkeep2 hb3 c02
  replace c03 := bkeep2 hb3 c03
  replace c10 := bkeep2 hb3 c10
  replace c11 := bkeep2 hb3 c11
  have l0 : w.heap.size < w3.heap.size := cell_lt c00
  have l1 : w.heap.size + 1 < w3.heap.size := cell_lt c10
  go_wp2_with fail
  refine bodyPost_ret (v := .agg #[.complex .f64 k1 k2, .float .f64 k3]) (by simp [results, Tryz.results88, go_sem, *]) rfl ⟨rfl, ?_⟩
  repeat (with_reducible first | exact Below.refl _ _ | assumption | refine Below.drew ?_ | refine bl_drewN ?_ _ | refine Below.setCell ?_ (by first | omega | (simp; done) | (simp; omega)) _ | refine Below.alloc ?_ (by first | omega | (simp; done) | (simp; omega)) _ | refine bl_next ?_ (by assumption) | refine bl_trans ?_ (by assumption) (by first | omega | (simp; done) | (simp; omega)))

end Go.Proofs.YtacnclofbnafiabGreatDoor
