import Derived.Test.YtacnclofbnafiabGreatDoorRB
import Derived.Test.YtacnclofbnafiabGreatDoorB1
import Derived.Laws.Cover3
import Derived.Test.YtacnclofbnafiabGreatDoorQA
namespace Go.Proofs.YtacnclofbnafiabGreatDoor
open Go.RowKit Fl

set_option maxHeartbeats 1000000 in
theorem inDisc_nan_w (p q a b r : Nat)
    (h1 : (Ieee.double.order r r != some .eq) = true) (w : World) :
    Calls Tryz.prog 22 #[.float .f64 p, .float .f64 q, .agg #[.complex .f64 a b, .float .f64 r]] w fun e w' => e = .returned (.bool false) ∧ Below w.heap.size w w' := by
  go_enter Tryz.func22, Tryz.ntmps22
  go_wp2_with fail
  obtain ⟨w0, hw0⟩ : ∃ v, v = (w.alloc (.cells #[.complex .f64 a b, .float .f64 r] 42)) := ⟨_, rfl⟩
  rw [← hw0]
  have c00 : w0.cell? ⟨w.heap.size, 0, none⟩ = some (.complex .f64 a b) := by simp [hw0, go_sem]
  have c01 : w0.cell? ⟨w.heap.size, 1, none⟩ = some (.float .f64 r) := by simp [hw0, go_sem]
  have s0 : w.heap.size + 1 ≤ w0.heap.size := by simp [hw0]
  have hB0 : Below w.heap.size w w0 := by
    rw [hw0]
    repeat (with_reducible first | exact Below.refl _ _ | assumption | refine Below.drew ?_ | refine bl_drewN ?_ _ | refine Below.setCell ?_ (by first | omega | (simp; done) | (simp; omega)) _ | refine Below.alloc ?_ (by first | omega | (simp; done) | (simp; omega)) _ | refine bl_next ?_ (by assumption) | refine bl_trans ?_ (by assumption) (by first | omega | (simp; done) | (simp; omega)))
  clear hw0
  go_ret
  refine ⟨rfl, ?_⟩
  repeat (with_reducible first | exact Below.refl _ _ | assumption | refine Below.drew ?_ | refine bl_drewN ?_ _ | refine Below.setCell ?_ (by first | omega | (simp; done) | (simp; omega)) _ | refine Below.alloc ?_ (by first | omega | (simp; done) | (simp; omega)) _ | refine bl_next ?_ (by assumption) | refine bl_trans ?_ (by assumption) (by first | omega | (simp; done) | (simp; omega)))

set_option maxHeartbeats 1000000 in
theorem inDisc_neg_w (p q a b r : Nat)
    (h1 : (Ieee.double.order r r != some .eq) = false)
    (h2 : (Ieee.double.order r 0 == some .lt) = true) (w : World) :
    Calls Tryz.prog 22 #[.float .f64 p, .float .f64 q, .agg #[.complex .f64 a b, .float .f64 r]] w fun e w' => e = .returned (.bool false) ∧ Below w.heap.size w w' := by
  go_enter Tryz.func22, Tryz.ntmps22
  go_wp2_with fail
  obtain ⟨w0, hw0⟩ : ∃ v, v = (w.alloc (.cells #[.complex .f64 a b, .float .f64 r] 42)) := ⟨_, rfl⟩
  rw [← hw0]
  have c00 : w0.cell? ⟨w.heap.size, 0, none⟩ = some (.complex .f64 a b) := by simp [hw0, go_sem]
  have c01 : w0.cell? ⟨w.heap.size, 1, none⟩ = some (.float .f64 r) := by simp [hw0, go_sem]
  have s0 : w.heap.size + 1 ≤ w0.heap.size := by simp [hw0]
  have hB0 : Below w.heap.size w w0 := by
    rw [hw0]
    repeat (with_reducible first | exact Below.refl _ _ | assumption | refine Below.drew ?_ | refine bl_drewN ?_ _ | refine Below.setCell ?_ (by first | omega | (simp; done) | (simp; omega)) _ | refine Below.alloc ?_ (by first | omega | (simp; done) | (simp; omega)) _ | refine bl_next ?_ (by assumption) | refine bl_trans ?_ (by assumption) (by first | omega | (simp; done) | (simp; omega)))
  clear hw0
  go_ret
  refine ⟨rfl, ?_⟩
  repeat (with_reducible first | exact Below.refl _ _ | assumption | refine Below.drew ?_ | refine bl_drewN ?_ _ | refine Below.setCell ?_ (by first | omega | (simp; done) | (simp; omega)) _ | refine Below.alloc ?_ (by first | omega | (simp; done) | (simp; omega)) _ | refine bl_next ?_ (by assumption) | refine bl_trans ?_ (by assumption) (by first | omega | (simp; done) | (simp; omega)))

set_option maxHeartbeats 1000000 in
theorem inDisc_all_w (p q a b r : Nat)
    (h1 : (Ieee.double.order r r != some .eq) = false)
    (h2 : (Ieee.double.order r 0 == some .lt) = false)
    (h3 : (Ieee.double.order r 9218868437227405311 == some .gt) = true) (w : World) :
    Calls Tryz.prog 22 #[.float .f64 p, .float .f64 q, .agg #[.complex .f64 a b, .float .f64 r]] w fun e w' => e = .returned (.bool true) ∧ Below w.heap.size w w' := by
  go_enter Tryz.func22, Tryz.ntmps22
  go_wp2_with fail
  obtain ⟨w0, hw0⟩ : ∃ v, v = (w.alloc (.cells #[.complex .f64 a b, .float .f64 r] 42)) := ⟨_, rfl⟩
  rw [← hw0]
  have c00 : w0.cell? ⟨w.heap.size, 0, none⟩ = some (.complex .f64 a b) := by simp [hw0, go_sem]
  have c01 : w0.cell? ⟨w.heap.size, 1, none⟩ = some (.float .f64 r) := by simp [hw0, go_sem]
  have s0 : w.heap.size + 1 ≤ w0.heap.size := by simp [hw0]
  have hB0 : Below w.heap.size w w0 := by
    rw [hw0]
    repeat (with_reducible first | exact Below.refl _ _ | assumption | refine Below.drew ?_ | refine bl_drewN ?_ _ | refine Below.setCell ?_ (by first | omega | (simp; done) | (simp; omega)) _ | refine Below.alloc ?_ (by first | omega | (simp; done) | (simp; omega)) _ | refine bl_next ?_ (by assumption) | refine bl_trans ?_ (by assumption) (by first | omega | (simp; done) | (simp; omega)))
  clear hw0
  go_ret
  refine ⟨rfl, ?_⟩
  repeat (with_reducible first | exact Below.refl _ _ | assumption | refine Below.drew ?_ | refine bl_drewN ?_ _ | refine Below.setCell ?_ (by first | omega | (simp; done) | (simp; omega)) _ | refine Below.alloc ?_ (by first | omega | (simp; done) | (simp; omega)) _ | refine bl_next ?_ (by assumption) | refine bl_trans ?_ (by assumption) (by first | omega | (simp; done) | (simp; omega)))

set_option maxHeartbeats 1000000 in
theorem inDisc_a_w (p q a b r : Nat)
    (h1 : (Ieee.double.order r r != some .eq) = false)
    (h2 : (Ieee.double.order r 0 == some .lt) = false)
    (h3 : (Ieee.double.order r 9218868437227405311 == some .gt) = false)
    (h4 : (Ieee.double.order a a != some .eq) = true) (w : World) :
    Calls Tryz.prog 22 #[.float .f64 p, .float .f64 q, .agg #[.complex .f64 a b, .float .f64 r]] w fun e w' => e = .returned (.bool false) ∧ Below w.heap.size w w' := by
  go_enter Tryz.func22, Tryz.ntmps22
  go_wp2_with fail
  obtain ⟨w0, hw0⟩ : ∃ v, v = (w.alloc (.cells #[.complex .f64 a b, .float .f64 r] 42)) := ⟨_, rfl⟩
  rw [← hw0]
  have c00 : w0.cell? ⟨w.heap.size, 0, none⟩ = some (.complex .f64 a b) := by simp [hw0, go_sem]
  have c01 : w0.cell? ⟨w.heap.size, 1, none⟩ = some (.float .f64 r) := by simp [hw0, go_sem]
  have s0 : w.heap.size + 1 ≤ w0.heap.size := by simp [hw0]
  have hB0 : Below w.heap.size w w0 := by
    rw [hw0]
    repeat (with_reducible first | exact Below.refl _ _ | assumption | refine Below.drew ?_ | refine bl_drewN ?_ _ | refine Below.setCell ?_ (by first | omega | (simp; done) | (simp; omega)) _ | refine Below.alloc ?_ (by first | omega | (simp; done) | (simp; omega)) _ | refine bl_next ?_ (by assumption) | refine bl_trans ?_ (by assumption) (by first | omega | (simp; done) | (simp; omega)))
  clear hw0
  go_ret
  refine ⟨rfl, ?_⟩
  repeat (with_reducible first | exact Below.refl _ _ | assumption | refine Below.drew ?_ | refine bl_drewN ?_ _ | refine Below.setCell ?_ (by first | omega | (simp; done) | (simp; omega)) _ | refine Below.alloc ?_ (by first | omega | (simp; done) | (simp; omega)) _ | refine bl_next ?_ (by assumption) | refine bl_trans ?_ (by assumption) (by first | omega | (simp; done) | (simp; omega)))

set_option maxHeartbeats 1000000 in
theorem inDisc_b_w (p q a b r : Nat)
    (h1 : (Ieee.double.order r r != some .eq) = false)
    (h2 : (Ieee.double.order r 0 == some .lt) = false)
    (h3 : (Ieee.double.order r 9218868437227405311 == some .gt) = false)
    (h4 : (Ieee.double.order a a != some .eq) = false)
    (h5 : (Ieee.double.order b b != some .eq) = true) (w : World) :
    Calls Tryz.prog 22 #[.float .f64 p, .float .f64 q, .agg #[.complex .f64 a b, .float .f64 r]] w fun e w' => e = .returned (.bool false) ∧ Below w.heap.size w w' := by
  go_enter Tryz.func22, Tryz.ntmps22
  go_wp2_with fail
  obtain ⟨w0, hw0⟩ : ∃ v, v = (w.alloc (.cells #[.complex .f64 a b, .float .f64 r] 42)) := ⟨_, rfl⟩
  rw [← hw0]
  have c00 : w0.cell? ⟨w.heap.size, 0, none⟩ = some (.complex .f64 a b) := by simp [hw0, go_sem]
  have c01 : w0.cell? ⟨w.heap.size, 1, none⟩ = some (.float .f64 r) := by simp [hw0, go_sem]
  have s0 : w.heap.size + 1 ≤ w0.heap.size := by simp [hw0]
  have hB0 : Below w.heap.size w w0 := by
    rw [hw0]
    repeat (with_reducible first | exact Below.refl _ _ | assumption | refine Below.drew ?_ | refine bl_drewN ?_ _ | refine Below.setCell ?_ (by first | omega | (simp; done) | (simp; omega)) _ | refine Below.alloc ?_ (by first | omega | (simp; done) | (simp; omega)) _ | refine bl_next ?_ (by assumption) | refine bl_trans ?_ (by assumption) (by first | omega | (simp; done) | (simp; omega)))
  clear hw0
  go_ret
  refine ⟨rfl, ?_⟩
  repeat (with_reducible first | exact Below.refl _ _ | assumption | refine Below.drew ?_ | refine bl_drewN ?_ _ | refine Below.setCell ?_ (by first | omega | (simp; done) | (simp; omega)) _ | refine Below.alloc ?_ (by first | omega | (simp; done) | (simp; omega)) _ | refine bl_next ?_ (by assumption) | refine bl_trans ?_ (by assumption) (by first | omega | (simp; done) | (simp; omega)))

set_option maxHeartbeats 1000000 in
theorem inDisc_c_w (p q a b r : Nat)
    (h1 : (Ieee.double.order r r != some .eq) = false)
    (h2 : (Ieee.double.order r 0 == some .lt) = false)
    (h3 : (Ieee.double.order r 9218868437227405311 == some .gt) = false)
    (h4 : (Ieee.double.order a a != some .eq) = false)
    (h5 : (Ieee.double.order b b != some .eq) = false)
    (i1 : ∀ w, Calls Tryz.prog 45 #[.float .f64 a] w fun e w' => e = .returned (.bool true) ∧ w' = w) (w : World) :
    Calls Tryz.prog 22 #[.float .f64 p, .float .f64 q, .agg #[.complex .f64 a b, .float .f64 r]] w fun e w' => e = .returned (.bool false) ∧ Below w.heap.size w w' := by
  go_enter Tryz.func22, Tryz.ntmps22
  go_wp2_with fail
  obtain ⟨w0, hw0⟩ : ∃ v, v = (w.alloc (.cells #[.complex .f64 a b, .float .f64 r] 42)) := ⟨_, rfl⟩
  rw [← hw0]
  have c00 : w0.cell? ⟨w.heap.size, 0, none⟩ = some (.complex .f64 a b) := by simp [hw0, go_sem]
  have c01 : w0.cell? ⟨w.heap.size, 1, none⟩ = some (.float .f64 r) := by simp [hw0, go_sem]
  have s0 : w.heap.size + 1 ≤ w0.heap.size := by simp [hw0]
  have hB0 : Below w.heap.size w w0 := by
    rw [hw0]
    repeat (with_reducible first | exact Below.refl _ _ | assumption | refine Below.drew ?_ | refine bl_drewN ?_ _ | refine Below.setCell ?_ (by first | omega | (simp; done) | (simp; omega)) _ | refine Below.alloc ?_ (by first | omega | (simp; done) | (simp; omega)) _ | refine bl_next ?_ (by assumption) | refine bl_trans ?_ (by assumption) (by first | omega | (simp; done) | (simp; omega)))
  clear hw0
  go_at_call 45
  refine (i1 _).mono ?_
  rintro e w' ⟨rfl, rfl⟩
  go_wp2_with fail
  go_ret
  refine ⟨rfl, ?_⟩
  repeat (with_reducible first | exact Below.refl _ _ | assumption | refine Below.drew ?_ | refine bl_drewN ?_ _ | refine Below.setCell ?_ (by first | omega | (simp; done) | (simp; omega)) _ | refine Below.alloc ?_ (by first | omega | (simp; done) | (simp; omega)) _ | refine bl_next ?_ (by assumption) | refine bl_trans ?_ (by assumption) (by first | omega | (simp; done) | (simp; omega)))

set_option maxHeartbeats 1000000 in
theorem inDisc_d_w (p q a b r : Nat)
    (h1 : (Ieee.double.order r r != some .eq) = false)
    (h2 : (Ieee.double.order r 0 == some .lt) = false)
    (h3 : (Ieee.double.order r 9218868437227405311 == some .gt) = false)
    (h4 : (Ieee.double.order a a != some .eq) = false)
    (h5 : (Ieee.double.order b b != some .eq) = false)
    (i1 : ∀ w, Calls Tryz.prog 45 #[.float .f64 a] w fun e w' => e = .returned (.bool false) ∧ w' = w)
    (i2 : ∀ w, Calls Tryz.prog 45 #[.float .f64 b] w fun e w' => e = .returned (.bool true) ∧ w' = w) (w : World) :
    Calls Tryz.prog 22 #[.float .f64 p, .float .f64 q, .agg #[.complex .f64 a b, .float .f64 r]] w fun e w' => e = .returned (.bool false) ∧ Below w.heap.size w w' := by
  go_enter Tryz.func22, Tryz.ntmps22
  go_wp2_with fail
  obtain ⟨w0, hw0⟩ : ∃ v, v = (w.alloc (.cells #[.complex .f64 a b, .float .f64 r] 42)) := ⟨_, rfl⟩
  rw [← hw0]
  have c00 : w0.cell? ⟨w.heap.size, 0, none⟩ = some (.complex .f64 a b) := by simp [hw0, go_sem]
  have c01 : w0.cell? ⟨w.heap.size, 1, none⟩ = some (.float .f64 r) := by simp [hw0, go_sem]
  have s0 : w.heap.size + 1 ≤ w0.heap.size := by simp [hw0]
  have hB0 : Below w.heap.size w w0 := by
    rw [hw0]
    repeat (with_reducible first | exact Below.refl _ _ | assumption | refine Below.drew ?_ | refine bl_drewN ?_ _ | refine Below.setCell ?_ (by first | omega | (simp; done) | (simp; omega)) _ | refine Below.alloc ?_ (by first | omega | (simp; done) | (simp; omega)) _ | refine bl_next ?_ (by assumption) | refine bl_trans ?_ (by assumption) (by first | omega | (simp; done) | (simp; omega)))
  clear hw0
  go_at_call 45
  refine (i1 _).mono ?_
  rintro e w' ⟨rfl, rfl⟩
  go_wp2_with fail
  go_at_call 45
  refine (i2 _).mono ?_
  rintro e w' ⟨rfl, rfl⟩
  go_wp2_with fail
  go_ret
  refine ⟨rfl, ?_⟩
  repeat (with_reducible first | exact Below.refl _ _ | assumption | refine Below.drew ?_ | refine bl_drewN ?_ _ | refine Below.setCell ?_ (by first | omega | (simp; done) | (simp; omega)) _ | refine Below.alloc ?_ (by first | omega | (simp; done) | (simp; omega)) _ | refine bl_next ?_ (by assumption) | refine bl_trans ?_ (by assumption) (by first | omega | (simp; done) | (simp; omega)))

end Go.Proofs.YtacnclofbnafiabGreatDoor

namespace Go.Proofs.YtacnclofbnafiabGreatDoor
open Go.RowKit Fl

theorem exk (be bd : Nat) (f : Nat → Int) (K : Int) (w : World) {x y : Nat} {k l : Int} (hx : Key x k) (hy : Key y l) (h1 : -(INF : Int) < k) (h2 : k < INF) (h3 : -(INF : Int) < l) (h4 : l < INF) (hX : OwnX be bd f w) (hf : ∀ j, -K ≤ f j ∧ f j ≤ K) (hK0 : 0 ≤ K) (hK : K ≤ 576460752303423488) :
    Calls Tryz.prog 47 #[.pointer (some ⟨be, 0, none⟩), .float .f64 x, .float .f64 y] w
      fun e w' => e = .returned (.tuple #[]) ∧ Below bd w w' ∧ ∃ f', OwnX be bd f' w' ∧ (∀ j, -(K + 1266637395197952) ≤ f' j ∧ f' j ≤ K + 1266637395197952) ∧ dv f' 190 = dv f 190 + Vk k * Vk l * 4096 := by
  obtain ⟨s, r, rfl, hr, _, e1⟩ := hx.fin h1 h2
  obtain ⟨t, q, rfl, hq, _, e2⟩ := hy.fin h3 h4
  rw [← e1, ← e2]
  exact exadd_any be bd f K w s t r q hX hf hK0 hK hr hq
theorem big64 : ((M INF * M INF : Nat) : Int) * 4096 * 64 < ((2 ^ (24 * 190) : Nat) : Int) := by
  obtain ⟨e, he⟩ : ∃ e : Nat, e = 2046 := ⟨_, rfl⟩
  obtain ⟨g, hg⟩ : ∃ g : Nat, g = 24 * 190 := ⟨_, rfl⟩
  have hI := M_at e
  have h2 : (e + 1) * 4503599627370496 = INF := by rw [INF_eq]; omega
  rw [h2] at hI
  rw [← hg, hI, ← Nat.pow_add]
  have h3 : 2 ^ (52 + e + (52 + e)) * 4096 * 64 < 2 ^ g := by
    calc 2 ^ (52 + e + (52 + e)) * 4096 * 64 < 2 ^ (52 + e + (52 + e)) * 2 ^ 20 := by
          have := Nat.two_pow_pos (52 + e + (52 + e))
          rw [Nat.mul_assoc]
          exact Nat.mul_lt_mul_of_pos_left (by decide) this
      _ = 2 ^ (52 + e + (52 + e) + 20) := (Nat.pow_add ..).symm
      _ ≤ 2 ^ g := Nat.pow_le_pow_right (by omega) (by omega)
  omega
theorem VVk_le {k l : Int} (h1 : -(INF : Int) < k) (h2 : k < INF) (h3 : -(INF : Int) < l) (h4 : l < INF) : Vk k * Vk l ≤ ((M INF * M INF : Nat) : Int) := by
  have p : ∀ {z : Int}, -(INF : Int) < z → z < INF → Pl z := fun a b => by unfold Pl; omega
  obtain ⟨s, r, _, hr, _, e1⟩ := (Key.at (p h1 h2)).fin h1 h2
  obtain ⟨t, q, _, hq, _, e2⟩ := (Key.at (p h3 h4)).fin h3 h4
  rw [← e1, ← e2]
  exact VV_le s t r q hr hq
theorem sign_le0 (x : Int) : decide (x.sign ≤ 0) = decide (x ≤ 0) := by
  apply decide_eq_decide.2
  rcases Int.lt_trichotomy x 0 with h | h | h
  · rw [Int.sign_eq_neg_one_of_neg h]; omega
  · subst h; simp
  · rw [Int.sign_eq_one_of_pos h]; omega
set_option maxHeartbeats 2000000 in
theorem inDisc_w (p q a b r pn qn rn : Nat) (P Q A C R : Int)
    (h1 : (Ieee.double.order r r != some .eq) = false)
    (h2 : (Ieee.double.order r 0 == some .lt) = false)
    (h3 : (Ieee.double.order r 9218868437227405311 == some .gt) = false)
    (h4 : (Ieee.double.order a a != some .eq) = false)
    (h5 : (Ieee.double.order b b != some .eq) = false)
    (i1 : ∀ w, Calls Tryz.prog 45 #[.float .f64 a] w fun e w' => e = .returned (.bool false) ∧ w' = w)
    (i2 : ∀ w, Calls Tryz.prog 45 #[.float .f64 b] w fun e w' => e = .returned (.bool false) ∧ w' = w)
    (g1 : Op.unary .neg (.float .f64 p) = pure (.float .f64 pn))
    (g2 : Op.unary .neg (.float .f64 q) = pure (.float .f64 qn))
    (g3 : Op.unary .neg (.float .f64 r) = pure (.float .f64 rn))
    (kp : Key p P) (p1 : -(INF : Int) < P) (p2 : P < INF)
    (kq : Key q Q) (q1 : -(INF : Int) < Q) (q2 : Q < INF)
    (ka : Key a A) (a1 : -(INF : Int) < A) (a2 : A < INF)
    (kb : Key b C) (b1 : -(INF : Int) < C) (b2 : C < INF)
    (kr : Key r R) (r1 : -(INF : Int) < R) (r2 : R < INF)
    (kpn : Key pn (-P)) (pn1 : -(INF : Int) < (-P)) (pn2 : (-P) < INF)
    (kqn : Key qn (-Q)) (qn1 : -(INF : Int) < (-Q)) (qn2 : (-Q) < INF)
    (krn : Key rn (-R)) (rn1 : -(INF : Int) < (-R)) (rn2 : (-R) < INF) (w : World) :
    Calls Tryz.prog 22 #[.float .f64 p, .float .f64 q, .agg #[.complex .f64 a b, .float .f64 r]] w fun e w' => e = .returned (.bool (decide (((Vk P - Vk A) * (Vk P - Vk A) + (Vk Q - Vk C) * (Vk Q - Vk C) - Vk R * Vk R) ≤ 0))) ∧ Below w.heap.size w w' := by
  go_enter Tryz.func22, Tryz.ntmps22
  go_wp2_with fail
  obtain ⟨w0, hw0⟩ : ∃ v, v = (w.alloc (.cells #[.complex .f64 a b, .float .f64 r] 42)) := ⟨_, rfl⟩
  rw [← hw0]
  have c00 : w0.cell? ⟨w.heap.size, 0, none⟩ = some (.complex .f64 a b) := by simp [hw0, go_sem]
  have c01 : w0.cell? ⟨w.heap.size, 1, none⟩ = some (.float .f64 r) := by simp [hw0, go_sem]
  have s0 : w.heap.size + 1 ≤ w0.heap.size := by simp [hw0]
  have hB0 : Below w.heap.size w w0 := by
    rw [hw0]
    repeat (with_reducible first | exact Below.refl _ _ | assumption | refine Below.drew ?_ | refine bl_drewN ?_ _ | refine Below.setCell ?_ (by first | omega | (simp; done) | (simp; omega)) _ | refine Below.alloc ?_ (by first | omega | (simp; done) | (simp; omega)) _ | refine bl_next ?_ (by assumption) | refine bl_trans ?_ (by assumption) (by first | omega | (simp; done) | (simp; omega)))
  clear hw0
  go_at_call 45
  refine (i1 _).mono ?_
  rintro e w' ⟨rfl, rfl⟩
  go_wp2_with fail
  go_at_call 45
  refine (i2 _).mono ?_
  rintro e w' ⟨rfl, rfl⟩
  go_wp2_with fail
  go_at_call 46
  refine (nought_any _).mono ?_
  rintro e w1 ⟨rfl, hX1, hB1⟩
  have hf1 : ∀ j : Nat, -(0 : Int) ≤ (fun _ => 0 : Nat → Int) j ∧ (fun _ => 0 : Nat → Int) j ≤ 0 := fun j => by simp
  go_wp2_with fail
  go_at_call 47
  refine (exk _ _ _ _ _ kp kp p1 p2 p1 p2 hX1 hf1 (by omega) (by omega)).mono ?_
  rintro e w2 ⟨rfl, hB2, f2, hX2, hf2, hd2⟩
  go_wp2_with fail
  go_at_call 47
  refine (exk _ _ _ _ _ kpn ka pn1 pn2 a1 a2 hX2 hf2 (by omega) (by omega)).mono ?_
  rintro e w3 ⟨rfl, hB3, f3, hX3, hf3, hd3⟩
  go_wp2_with fail
  go_at_call 47
  refine (exk _ _ _ _ _ kpn ka pn1 pn2 a1 a2 hX3 hf3 (by omega) (by omega)).mono ?_
  rintro e w4 ⟨rfl, hB4, f4, hX4, hf4, hd4⟩
  go_wp2_with fail
  go_at_call 47
  refine (exk _ _ _ _ _ ka ka a1 a2 a1 a2 hX4 hf4 (by omega) (by omega)).mono ?_
  rintro e w5 ⟨rfl, hB5, f5, hX5, hf5, hd5⟩
  go_wp2_with fail
  go_at_call 47
  refine (exk _ _ _ _ _ kq kq q1 q2 q1 q2 hX5 hf5 (by omega) (by omega)).mono ?_
  rintro e w6 ⟨rfl, hB6, f6, hX6, hf6, hd6⟩
  go_wp2_with fail
  go_at_call 47
  refine (exk _ _ _ _ _ kqn kb qn1 qn2 b1 b2 hX6 hf6 (by omega) (by omega)).mono ?_
  rintro e w7 ⟨rfl, hB7, f7, hX7, hf7, hd7⟩
  go_wp2_with fail
  go_at_call 47
  refine (exk _ _ _ _ _ kqn kb qn1 qn2 b1 b2 hX7 hf7 (by omega) (by omega)).mono ?_
  rintro e w8 ⟨rfl, hB8, f8, hX8, hf8, hd8⟩
  go_wp2_with fail
  go_at_call 47
  refine (exk _ _ _ _ _ kb kb b1 b2 b1 b2 hX8 hf8 (by omega) (by omega)).mono ?_
  rintro e w9 ⟨rfl, hB9, f9, hX9, hf9, hd9⟩
  go_wp2_with fail
  go_at_call 47
  refine (exk _ _ _ _ _ krn kr rn1 rn2 r1 r2 hX9 hf9 (by omega) (by omega)).mono ?_
  rintro e w10 ⟨rfl, hB10, f10, hX10, hf10, hd10⟩
  have hd0 : dv (fun _ => 0) 190 = 0 := dv_zero 190
  have hval : dv f10 190 = ((Vk P - Vk A) * (Vk P - Vk A) + (Vk Q - Vk C) * (Vk Q - Vk C) - Vk R * Vk R) * 4096 := by
    rw [hd10, hd9, hd8, hd7, hd6, hd5, hd4, hd3, hd2, hd0]
    simp only [Vk_neg]
    grind
  have hbd : dv f10 190 < ((2 ^ (24 * 190) : Nat) : Int) := by
    have b := big64
    have v0 := VVk_le p1 p2 p1 p2
    have v1 := VVk_le pn1 pn2 a1 a2
    have v2 := VVk_le pn1 pn2 a1 a2
    have v3 := VVk_le a1 a2 a1 a2
    have v4 := VVk_le q1 q2 q1 q2
    have v5 := VVk_le qn1 qn2 b1 b2
    have v6 := VVk_le qn1 qn2 b1 b2
    have v7 := VVk_le b1 b2 b1 b2
    have v8 := VVk_le rn1 rn2 r1 r2
    rw [hd10, hd9, hd8, hd7, hd6, hd5, hd4, hd3, hd2, hd0]
    omega
  have hsg : (dv f10 190).sign = ((Vk P - Vk A) * (Vk P - Vk A) + (Vk Q - Vk C) * (Vk Q - Vk C) - Vk R * Vk R).sign := by
    rw [hval]
    exact sign_scale _ _ (by omega)
  have hBall : Below w.heap.size w w10 := hB0.trans (Below.mono (Below.trans (Below.trans (Below.trans (Below.trans (Below.trans (Below.trans (Below.trans (Below.trans (Below.trans (hB1) hB2) hB3) hB4) hB5) hB6) hB7) hB8) hB9) hB10) hB0.size)
  have hf' : ∀ j, -1152921504606846976 ≤ f10 j ∧ f10 j ≤ 1152921504606846976 := fun j => by have := hf10 j; omega
  have hsn := sign_any _ _ f10 w10 hX10 hf' hbd
  rw [hsg] at hsn
  have hle := sign_le0 ((Vk P - Vk A) * (Vk P - Vk A) + (Vk Q - Vk C) * (Vk Q - Vk C) - Vk R * Vk R)
  clear hval hbd hsg hf' hd0 hd2 hf2 hX2 hB2 hd3 hf3 hX3 hB3 hd4 hf4 hX4 hB4 hd5 hf5 hX5 hB5 hd6 hf6 hX6 hB6 hd7 hf7 hX7 hB7 hd8 hf8 hX8 hB8 hd9 hf9 hX9 hB9 hd10 hf10 hX10 hB10 hX1 hB1 hf1
  obtain ⟨E0, hE0⟩ : ∃ v, v = ((Vk P - Vk A) * (Vk P - Vk A) + (Vk Q - Vk C) * (Vk Q - Vk C) - Vk R * Vk R) := ⟨_, rfl⟩
  rw [← hE0] at hsn hle
  have HE : Hid (E0 = ((Vk P - Vk A) * (Vk P - Vk A) + (Vk Q - Vk C) * (Vk Q - Vk C) - Vk R * Vk R)) := hE0
  clear hE0
  generalize E0.sign = SG at hsn hle
  go_wp2_with fail
  go_at_call 48
  refine hsn.mono ?_
  rintro e w' ⟨rfl, rfl⟩
  go_wp2
  go_ret
  exact ⟨congrArg (fun v => Ending.returned (.bool (decide (v ≤ 0)))) HE.out, hBall⟩

end Go.Proofs.YtacnclofbnafiabGreatDoor
