import Derived.Test.YtacnclofbnafiabGreatDoorPG
import Derived.Test.YtacnclofbnafiabGreatDoorSK
import Derived.Test.YtacnclofbnafiabGreatDoorX3
import Derived.Test.YtacnclofbnafiabGreatDoorBB
import Derived.Test.YtacnclofbnafiabGreatDoorPD
namespace Go.Proofs.YtacnclofbnafiabGreatDoor
open Go.RowKit Fl

theorem rplain {x y : Nat} {k l : Int} (hx : Key x k) (hy : Key y l) : ∀ w, Calls Tryz.prog 79 #[.float .f64 x, .float .f64 y] w fun e w' => e = .returned (.agg #[.float .f64 (B k), .float .f64 (B l)]) ∧ Below w.heap.size w w' := rplain_w x y _ _ hx.plus0 hy.plus0
theorem rneg_ok {X1 X2 : Nat} {k l : Int} (h : Iv X1 X2 k l) : ∀ w, Calls Tryz.prog 80 #[.agg #[.float .f64 X1, .float .f64 X2]] w fun e w' => e = .returned (.agg #[.float .f64 (B (-l)), .float .f64 (B (-k))]) ∧ Below w.heap.size w w' :=
  rneg_ok_w X1 X2 _ _ _ _ (rnone_no h) h.y.minus h.x.minus (rplain (Key.at (neg_pl h.y.pl)) (Key.at (neg_pl h.x.pl)))
theorem alike_any {a b : Int} (ha : Pl a) (hb : Pl b) : ∀ w, Calls Tryz.prog 43 #[.agg #[.float .f64 (B a), .float .f64 (B b)], .agg #[.float .f64 (B a), .float .f64 (B b)]] w fun e w' => e = .returned (.bool true) ∧ Below w.heap.size w w' := alike_w _ _ (same_any _ (Key.at ha).self) (same_any _ (Key.at hb).self)
def fourI (a b c d : Int) (k : Nat) : Int := if k = 0 then a else if k = 1 then b else if k = 2 then c else d
theorem rnoBox : ∀ w, Calls Tryz.prog 75 #[] w fun e w' => e = .returned (.agg #[.float .f64 (B INF), .float .f64 (B (-INF)), .float .f64 (B INF), .float .f64 (B (-INF))]) ∧ Below w.heap.size w w' := rnoBox_w _ _ rempty
theorem alikeBox_any {a b c d : Int} (ha : Pl a) (hb : Pl b) (hc : Pl c) (hd : Pl d) : ∀ w, Calls Tryz.prog 18 #[.agg #[.float .f64 (B a), .float .f64 (B b), .float .f64 (B c), .float .f64 (B d)], .agg #[.float .f64 (B a), .float .f64 (B b), .float .f64 (B c), .float .f64 (B d)]] w fun e w' => e = .returned (.bool true) ∧ Below w.heap.size w w' :=
  alikeBox_w _ _ _ _ (alike_any ha hb) (alike_any hc hd)
end Go.Proofs.YtacnclofbnafiabGreatDoor

namespace Go.Proofs.YtacnclofbnafiabGreatDoor
open Go.RowKit

theorem runN_end {P : Program} {m a : Machine} {n : Nat} (h : runN P n m = .next a) {s : Stepped} (hs : step P a = s) (he : ∀ m', s ≠ .next m') (j : Nat) : runN P (n + (j + 1)) m = s := by
  rw [runN_add, h]
  show runN P (j + 1) a = s
  unfold runN
  rw [hs]
  cases s with
  | next m' => exact absurd rfl (he m')
  | ended o w => rfl
def doneOf : Stepped → Option Value
  | .ended (.done v) _ => some v
  | _ => none
/-- A call that answers v answers nothing else. -/
theorem calls_unique {f : FuncId} {args : Array Value} {w : World} {v v' : Value} {R R' : World → Prop} (hf : Tryz.prog.inits.idxOf? f = none) (h : Calls Tryz.prog f args w fun e w' => e = .returned v ∧ R w') (h' : Calls Tryz.prog f args w fun e w' => e = .returned v' ∧ R' w') : v = v' := by
  obtain ⟨e, w1, fr, ⟨rfl, _⟩, ⟨n, hn⟩, hfn, hl⟩ := h []
  obtain ⟨e', w2, fr', ⟨rfl, _⟩, ⟨k, hk⟩, hfn', hl'⟩ := h' []
  have s1 := step_leave_done hl (by rw [hfn]; exact hf)
  have s2 := step_leave_done hl' (by rw [hfn']; exact hf)
  have r1 := runN_end hn s1 (fun _ => by simp) k
  have r2 := runN_end hk s2 (fun _ => by simp) n
  rw [show k + (n + 1) = n + (k + 1) by omega, r1] at r2
  exact Option.some.inj (congrArg doneOf r2)
theorem ret_unique (w : World) {f : FuncId} {args : Array Value} {v v' : Value} (hf : Tryz.prog.inits.idxOf? f = none) (h : Ret f args v) (h' : Ret f args v') : v = v' := calls_unique hf (h w) (h' w)
theorem Bx.v_inj {x y : Bx} (h : x.v = y.v) : x = y := by
  cases x; cases y
  simp [Bx.v] at h
  simp [h]
theorem Dc.v_inj {x y : Dc} (h : x.v = y.v) : x = y := by
  cases x; cases y
  simp [Dc.v] at h
  simp [h]
theorem in_badd : Tryz.prog.inits.idxOf? 85 = none := by kernel_rfl
theorem in_bsub : Tryz.prog.inits.idxOf? 86 = none := by kernel_rfl
theorem in_bmul : Tryz.prog.inits.idxOf? 87 = none := by kernel_rfl
theorem in_bconj : Tryz.prog.inits.idxOf? 94 = none := by kernel_rfl
theorem in_dadd : Tryz.prog.inits.idxOf? 89 = none := by kernel_rfl
theorem in_dsub : Tryz.prog.inits.idxOf? 90 = none := by kernel_rfl
theorem in_dmul : Tryz.prog.inits.idxOf? 91 = none := by kernel_rfl
theorem in_dconj : Tryz.prog.inits.idxOf? 95 = none := by kernel_rfl
theorem Plane.is_badd (P : Plane) (w : World) {x y z : Bx} (hx : x.ok) (hy : y.ok) (h : Ret 85 #[x.v, y.v] z.v) : P.badd x y = z := Bx.v_inj (ret_unique w in_badd (P.hbadd x y hx hy).2 h)
theorem Plane.is_bsub (P : Plane) (w : World) {x y z : Bx} (hx : x.ok) (hy : y.ok) (h : Ret 86 #[x.v, y.v] z.v) : P.bsub x y = z := Bx.v_inj (ret_unique w in_bsub (P.hbsub x y hx hy).2 h)
theorem Plane.is_bmul (P : Plane) (w : World) {x y z : Bx} (hx : x.ok) (hy : y.ok) (h : Ret 87 #[x.v, y.v] z.v) : P.bmul x y = z := Bx.v_inj (ret_unique w in_bmul (P.hbmul x y hx hy).2 h)
theorem Plane.is_bconj (P : Plane) (w : World) {x z : Bx} (hx : x.ok) (h : Ret 94 #[x.v] z.v) : P.bconj x = z := Bx.v_inj (ret_unique w in_bconj (P.hbconj x hx).2 h)
theorem Plane.is_dadd (P : Plane) (w : World) {x y z : Dc} (hx : x.ok) (hy : y.ok) (h : Ret 89 #[x.v, y.v] z.v) : P.dadd x y = z := Dc.v_inj (ret_unique w in_dadd (P.hdadd x y hx hy).2 h)
theorem Plane.is_dsub (P : Plane) (w : World) {x y z : Dc} (hx : x.ok) (hy : y.ok) (h : Ret 90 #[x.v, y.v] z.v) : P.dsub x y = z := Dc.v_inj (ret_unique w in_dsub (P.hdsub x y hx hy).2 h)
theorem Plane.is_dmul (P : Plane) (w : World) {x y z : Dc} (hx : x.ok) (hy : y.ok) (h : Ret 91 #[x.v, y.v] z.v) : P.dmul x y = z := Dc.v_inj (ret_unique w in_dmul (P.hdmul x y hx hy).2 h)
theorem Plane.is_dconj (P : Plane) (w : World) {x z : Dc} (hx : x.ok) (h : Ret 95 #[x.v] z.v) : P.dconj x = z := Dc.v_inj (ret_unique w in_dconj (P.hdconj x hx).2 h)
end Go.Proofs.YtacnclofbnafiabGreatDoor

namespace Go.Proofs.YtacnclofbnafiabGreatDoor
open Go.RowKit Fl

set_option maxHeartbeats 1000000 in
theorem rmirror_no_w (X1 X2 X3 X4 e1 e2 e3 e4 : Nat)
    (b1 : ∀ w, Calls Tryz.prog 74 #[.agg #[.float .f64 X1, .float .f64 X2, .float .f64 X3, .float .f64 X4]] w fun e w' => e = .returned (.bool true) ∧ Below w.heap.size w w')
    (nb : ∀ w, Calls Tryz.prog 75 #[] w fun e w' => e = .returned (.agg #[.float .f64 e1, .float .f64 e2, .float .f64 e3, .float .f64 e4]) ∧ Below w.heap.size w w') (w : World) :
    Calls Tryz.prog 41 #[.agg #[.float .f64 X1, .float .f64 X2, .float .f64 X3, .float .f64 X4]] w fun e w' => e = .returned (.agg #[.float .f64 e1, .float .f64 e2, .float .f64 e3, .float .f64 e4]) ∧ Below w.heap.size w w' := by
  go_enter Tryz.func41, Tryz.ntmps41
  go_wp2_with fail
  obtain ⟨w0, hw0⟩ : ∃ v, v = ((w.alloc (.cells #[.float .f64 X1, .float .f64 X2, .float .f64 X3, .float .f64 X4] 39)).alloc (.cells #[.float .f64 0, .float .f64 0, .float .f64 0, .float .f64 0] 39)) := ⟨_, rfl⟩
  rw [← hw0]
  have c00 : w0.cell? ⟨w.heap.size, 0, none⟩ = some (.float .f64 X1) := by simp [hw0, go_sem]
  have c01 : w0.cell? ⟨w.heap.size, 1, none⟩ = some (.float .f64 X2) := by simp [hw0, go_sem]
  have c02 : w0.cell? ⟨w.heap.size, 2, none⟩ = some (.float .f64 X3) := by simp [hw0, go_sem]
  have c03 : w0.cell? ⟨w.heap.size, 3, none⟩ = some (.float .f64 X4) := by simp [hw0, go_sem]
  have c10 : w0.cell? ⟨w.heap.size + 1, 0, none⟩ = some (.float .f64 0) := by simp [hw0, go_sem]
  have fc10 : w0.frozen? ⟨w.heap.size + 1, 0, none⟩ = false := by simp [hw0, go_sem]
  have c11 : w0.cell? ⟨w.heap.size + 1, 1, none⟩ = some (.float .f64 0) := by simp [hw0, go_sem]
  have fc11 : w0.frozen? ⟨w.heap.size + 1, 1, none⟩ = false := by simp [hw0, go_sem]
  have c12 : w0.cell? ⟨w.heap.size + 1, 2, none⟩ = some (.float .f64 0) := by simp [hw0, go_sem]
  have fc12 : w0.frozen? ⟨w.heap.size + 1, 2, none⟩ = false := by simp [hw0, go_sem]
  have c13 : w0.cell? ⟨w.heap.size + 1, 3, none⟩ = some (.float .f64 0) := by simp [hw0, go_sem]
  have fc13 : w0.frozen? ⟨w.heap.size + 1, 3, none⟩ = false := by simp [hw0, go_sem]
  have s0 : w.heap.size + 1 + 1 ≤ w0.heap.size := by simp [hw0]
  have hB0 : Below w.heap.size w w0 := by
    rw [hw0]
    repeat (with_reducible first | exact Below.refl _ _ | assumption | refine Below.drew ?_ | refine bl_drewN ?_ _ | refine Below.setCell ?_ (by first | omega | (simp; done) | (simp; omega)) _ | refine Below.alloc ?_ (by first | omega | (simp; done) | (simp; omega)) _ | refine bl_next ?_ (by assumption) | refine bl_trans ?_ (by assumption) (by first | omega | (simp; done) | (simp; omega)))
  clear hw0
  go_at_call 74
  refine (b1 _).mono ?_
  rintro e w1 ⟨rfl, hb1⟩
  have s1 := hb1.size
  try simp at s1
  replace fc10 := bfroz2 hb1 c10 fc10
  replace fc11 := bfroz2 hb1 c11 fc11
  replace fc12 := bfroz2 hb1 c12 fc12
  replace fc13 := bfroz2 hb1 c13 fc13
  replace c00 := bkeep2 hb1 c00
  replace c01 := bkeep2 hb1 c01
  replace c02 := bkeep2 hb1 c02
  replace c03 := bkeep2 hb1 c03
  replace c10 := bkeep2 hb1 c10
  replace c11 := bkeep2 hb1 c11
  replace c12 := bkeep2 hb1 c12
  replace c13 := bkeep2 hb1 c13
  have l0 : w.heap.size < w1.heap.size := cell_lt c00
  have l1 : w.heap.size + 1 < w1.heap.size := cell_lt c10
  go_wp2_with fail
  go_at_call 75
  refine (nb _).mono ?_
  rintro e w2 ⟨rfl, hb2⟩
  have s2 := hb2.size
  try simp at s2
  replace fc10 := bfroz2 hb2 c10 fc10
  replace fc11 := bfroz2 hb2 c11 fc11
  replace fc12 := bfroz2 hb2 c12 fc12
  replace fc13 := bfroz2 hb2 c13 fc13
  replace c00 := bkeep2 hb2 c00
  replace c01 := bkeep2 hb2 c01
  replace c02 := bkeep2 hb2 c02
  replace c03 := bkeep2 hb2 c03
  replace c10 := bkeep2 hb2 c10
  replace c11 := bkeep2 hb2 c11
  replace c12 := bkeep2 hb2 c12
  replace c13 := bkeep2 hb2 c13
  have l0 : w.heap.size < w2.heap.size := cell_lt c00
  have l1 : w.heap.size + 1 < w2.heap.size := cell_lt c10
  go_wp2_with fail
  refine bodyPost_ret (v := .agg #[.float .f64 e1, .float .f64 e2, .float .f64 e3, .float .f64 e4]) (by simp [results, Tryz.results41, go_sem, *]) rfl ⟨rfl, ?_⟩
  repeat (with_reducible first | exact Below.refl _ _ | assumption | refine Below.drew ?_ | refine bl_drewN ?_ _ | refine Below.setCell ?_ (by first | omega | (simp; done) | (simp; omega)) _ | refine Below.alloc ?_ (by first | omega | (simp; done) | (simp; omega)) _ | refine bl_next ?_ (by assumption) | refine bl_trans ?_ (by assumption) (by first | omega | (simp; done) | (simp; omega)))

set_option maxHeartbeats 1000000 in
theorem rmirror_ok_w (X1 X2 X3 X4 a b c d : Nat)
    (b1 : ∀ w, Calls Tryz.prog 74 #[.agg #[.float .f64 X1, .float .f64 X2, .float .f64 X3, .float .f64 X4]] w fun e w' => e = .returned (.bool false) ∧ Below w.heap.size w w')
    (p1 : ∀ w, Calls Tryz.prog 79 #[.float .f64 X1, .float .f64 X2] w fun e w' => e = .returned (.agg #[.float .f64 a, .float .f64 b]) ∧ Below w.heap.size w w')
    (n1 : ∀ w, Calls Tryz.prog 80 #[.agg #[.float .f64 X3, .float .f64 X4]] w fun e w' => e = .returned (.agg #[.float .f64 c, .float .f64 d]) ∧ Below w.heap.size w w') (w : World) :
    Calls Tryz.prog 41 #[.agg #[.float .f64 X1, .float .f64 X2, .float .f64 X3, .float .f64 X4]] w fun e w' => e = .returned (.agg #[.float .f64 a, .float .f64 b, .float .f64 c, .float .f64 d]) ∧ Below w.heap.size w w' := by
  go_enter Tryz.func41, Tryz.ntmps41
  go_wp2_with fail
  obtain ⟨w0, hw0⟩ : ∃ v, v = ((w.alloc (.cells #[.float .f64 X1, .float .f64 X2, .float .f64 X3, .float .f64 X4] 39)).alloc (.cells #[.float .f64 0, .float .f64 0, .float .f64 0, .float .f64 0] 39)) := ⟨_, rfl⟩
  rw [← hw0]
  have c00 : w0.cell? ⟨w.heap.size, 0, none⟩ = some (.float .f64 X1) := by simp [hw0, go_sem]
  have c01 : w0.cell? ⟨w.heap.size, 1, none⟩ = some (.float .f64 X2) := by simp [hw0, go_sem]
  have c02 : w0.cell? ⟨w.heap.size, 2, none⟩ = some (.float .f64 X3) := by simp [hw0, go_sem]
  have c03 : w0.cell? ⟨w.heap.size, 3, none⟩ = some (.float .f64 X4) := by simp [hw0, go_sem]
  have c10 : w0.cell? ⟨w.heap.size + 1, 0, none⟩ = some (.float .f64 0) := by simp [hw0, go_sem]
  have fc10 : w0.frozen? ⟨w.heap.size + 1, 0, none⟩ = false := by simp [hw0, go_sem]
  have c11 : w0.cell? ⟨w.heap.size + 1, 1, none⟩ = some (.float .f64 0) := by simp [hw0, go_sem]
  have fc11 : w0.frozen? ⟨w.heap.size + 1, 1, none⟩ = false := by simp [hw0, go_sem]
  have c12 : w0.cell? ⟨w.heap.size + 1, 2, none⟩ = some (.float .f64 0) := by simp [hw0, go_sem]
  have fc12 : w0.frozen? ⟨w.heap.size + 1, 2, none⟩ = false := by simp [hw0, go_sem]
  have c13 : w0.cell? ⟨w.heap.size + 1, 3, none⟩ = some (.float .f64 0) := by simp [hw0, go_sem]
  have fc13 : w0.frozen? ⟨w.heap.size + 1, 3, none⟩ = false := by simp [hw0, go_sem]
  have s0 : w.heap.size + 1 + 1 ≤ w0.heap.size := by simp [hw0]
  have hB0 : Below w.heap.size w w0 := by
    rw [hw0]
    repeat (with_reducible first | exact Below.refl _ _ | assumption | refine Below.drew ?_ | refine bl_drewN ?_ _ | refine Below.setCell ?_ (by first | omega | (simp; done) | (simp; omega)) _ | refine Below.alloc ?_ (by first | omega | (simp; done) | (simp; omega)) _ | refine bl_next ?_ (by assumption) | refine bl_trans ?_ (by assumption) (by first | omega | (simp; done) | (simp; omega)))
  clear hw0
  go_at_call 74
  refine (b1 _).mono ?_
  rintro e w1 ⟨rfl, hb1⟩
  have s1 := hb1.size
  try simp at s1
  replace fc10 := bfroz2 hb1 c10 fc10
  replace fc11 := bfroz2 hb1 c11 fc11
  replace fc12 := bfroz2 hb1 c12 fc12
  replace fc13 := bfroz2 hb1 c13 fc13
  replace c00 := bkeep2 hb1 c00
  replace c01 := bkeep2 hb1 c01
  replace c02 := bkeep2 hb1 c02
  replace c03 := bkeep2 hb1 c03
  replace c10 := bkeep2 hb1 c10
  replace c11 := bkeep2 hb1 c11
  replace c12 := bkeep2 hb1 c12
  replace c13 := bkeep2 hb1 c13
  have l0 : w.heap.size < w1.heap.size := cell_lt c00
  have l1 : w.heap.size + 1 < w1.heap.size := cell_lt c10
  go_wp2_with fail
  go_at_call 79
  refine (p1 _).mono ?_
  rintro e w2 ⟨rfl, hb2⟩
  have s2 := hb2.size
  try simp at s2
  replace fc10 := bfroz2 hb2 c10 fc10
  replace fc11 := bfroz2 hb2 c11 fc11
  replace fc12 := bfroz2 hb2 c12 fc12
  replace fc13 := bfroz2 hb2 c13 fc13
  replace c00 := bkeep2 hb2 c00
  replace c01 := bkeep2 hb2 c01
  replace c02 := bkeep2 hb2 c02
  replace c03 := bkeep2 hb2 c03
  replace c10 := bkeep2 hb2 c10
  replace c11 := bkeep2 hb2 c11
  replace c12 := bkeep2 hb2 c12
  replace c13 := bkeep2 hb2 c13
  have l0 : w.heap.size < w2.heap.size := cell_lt c00
  have l1 : w.heap.size + 1 < w2.heap.size := cell_lt c10
  go_wp2_with fail
  go_at_call 80
  refine (n1 _).mono ?_
  rintro e w3 ⟨rfl, hb3⟩
  have s3 := hb3.size
  try simp at s3
  replace fc10 := bfroz3 hb3 c10 fc10
  replace fc11 := bfroz3 hb3 c11 fc11
  replace fc12 := bfroz3 hb3 c12 fc12
  replace fc13 := bfroz3 hb3 c13 fc13
  replace c00 := bkeep3 hb3 c00
  replace c01 := bkeep3 hb3 c01
  replace c02 := bkeep3 hb3 c02
  replace c03 := bkeep3 hb3 c03
  replace c10 := bkeep3 hb3 c10
  replace c11 := bkeep3 hb3 c11
  replace c12 := bkeep3 hb3 c12
  replace c13 := bkeep3 hb3 c13
  have d30 : w3.cell? ⟨w2.heap.size, 0, none⟩ = some (.float .f64 a) := bkeep2 hb3 (by simp [go_sem])
  have d31 : w3.cell? ⟨w2.heap.size, 1, none⟩ = some (.float .f64 b) := bkeep2 hb3 (by simp [go_sem])
  have l0 : w.heap.size < w3.heap.size := cell_lt c00
  have l1 : w.heap.size + 1 < w3.heap.size := cell_lt c10
  have l2 : w2.heap.size < w3.heap.size := cell_lt d30
  go_wp2_with fail
  refine bodyPost_ret (v := .agg #[.float .f64 a, .float .f64 b, .float .f64 c, .float .f64 d]) (by simp [results, Tryz.results41, go_sem, *]) rfl ⟨rfl, ?_⟩
  repeat (with_reducible first | exact Below.refl _ _ | assumption | refine Below.drew ?_ | refine bl_drewN ?_ _ | refine Below.setCell ?_ (by first | omega | (simp; done) | (simp; omega)) _ | refine Below.alloc ?_ (by first | omega | (simp; done) | (simp; omega)) _ | refine bl_next ?_ (by assumption) | refine bl_trans ?_ (by assumption) (by first | omega | (simp; done) | (simp; omega)))

/-- A box that an operation made. -/
def Nm (z : Bx) : Prop := ∃ a b c d, Pl a ∧ Pl b ∧ Pl c ∧ Pl d ∧ z = ⟨B a, B b, B c, B d⟩
theorem nm_emp : Nm ⟨B INF, B (-INF), B INF, B (-INF)⟩ := ⟨_, _, _, _, pl_inf, pl_ninf, pl_inf, pl_ninf, rfl⟩
theorem bconj_ref (P : Plane) (w : World) {x : Bx} (hx : x.ok) : Ret 41 #[x.v] (P.bconj x).v ∧ Nm (P.bconj x) := by
  rcases Bx.or x.a x.b x.c x.d with ⟨k, l, m, n, a, b⟩ | h
  · rw [P.is_bconj w hx (z := ⟨_, _, _, _⟩) (boxConj_ok a b)]
    exact ⟨rmirror_ok_w _ _ _ _ _ _ _ _ (rbare_no a b) (rplain a.x a.y) (rneg_ok b), _, _, _, _, a.x.pl, a.y.pl, pl_neg b.y.pl, pl_neg b.x.pl, rfl⟩
  · rw [P.is_bconj w hx (z := ⟨_, _, _, _⟩) (boxConj_no hx.1 hx.2.1 hx.2.2.1 hx.2.2.2 h)]
    exact ⟨rmirror_no_w _ _ _ _ _ _ _ _ (rbare_yes hx.1 hx.2.1 hx.2.2.1 hx.2.2.2 h) rnoBox, nm_emp⟩
theorem badd_nm (F : Ops) (P : Plane) (w : World) {x y : Bx} (hx : x.ok) (hy : y.ok) : Nm (P.badd x y) := by
  rcases no_bx (X1 := x.a) (X2 := x.b) (X3 := x.c) (X4 := x.d) (Y1 := y.a) (Y2 := y.b) (Y3 := y.c) (Y4 := y.d) with ⟨k, l, m, n, k', l', m', n', a, b, c, d⟩ | h
  · rw [P.is_badd w hx hy (z := ⟨_, _, _, _⟩) (pboxAdd_ok F a b c d)]
    have p := padd_iv F a c
    have q := padd_iv F b d
    exact ⟨_, _, _, _, p.x.pl, p.y.pl, q.x.pl, q.y.pl, rfl⟩
  · rw [P.is_badd w hx hy (z := ⟨_, _, _, _⟩) (pboxAdd_no F hx.1 hx.2.1 hx.2.2.1 hx.2.2.2 hy.1 hy.2.1 hy.2.2.1 hy.2.2.2 h)]
    exact nm_emp
theorem bsub_nm (F : Ops) (P : Plane) (w : World) {x y : Bx} (hx : x.ok) (hy : y.ok) : Nm (P.bsub x y) := by
  rcases no_bx (X1 := x.a) (X2 := x.b) (X3 := x.c) (X4 := x.d) (Y1 := y.a) (Y2 := y.b) (Y3 := y.c) (Y4 := y.d) with ⟨k, l, m, n, k', l', m', n', a, b, c, d⟩ | h
  · rw [P.is_bsub w hx hy (z := ⟨_, _, _, _⟩) (pboxSub_ok F a b c d)]
    have p := padd_iv F a c.neg
    have q := padd_iv F b d.neg
    exact ⟨_, _, _, _, p.x.pl, p.y.pl, q.x.pl, q.y.pl, rfl⟩
  · rw [P.is_bsub w hx hy (z := ⟨_, _, _, _⟩) (pboxSub_no F hx.1 hx.2.1 hx.2.2.1 hx.2.2.2 hy.1 hy.2.1 hy.2.2.1 hy.2.2.2 h)]
    exact nm_emp
theorem bmul_nm (F : Ops) (P : Plane) (w : World) {x y : Bx} (hx : x.ok) (hy : y.ok) : Nm (P.bmul x y) := by
  rcases no_bx (X1 := x.a) (X2 := x.b) (X3 := x.c) (X4 := x.d) (Y1 := y.a) (Y2 := y.b) (Y3 := y.c) (Y4 := y.d) with ⟨k, l, m, n, k', l', m', n', a, b, c, d⟩ | h
  · rw [P.is_bmul w hx hy (z := ⟨_, _, _, _⟩) (pboxMul_ok F a b c d)]
    have p := padd_iv F (pmul_iv F a c) (pmul_iv F b d).neg
    have q := padd_iv F (pmul_iv F a d) (pmul_iv F b c)
    exact ⟨_, _, _, _, p.x.pl, p.y.pl, q.x.pl, q.y.pl, rfl⟩
  · rw [P.is_bmul w hx hy (z := ⟨_, _, _, _⟩) (pboxMul_no F hx.1 hx.2.1 hx.2.2.1 hx.2.2.2 hy.1 hy.2.1 hy.2.2.1 hy.2.2.2 h)]
    exact nm_emp
end Go.Proofs.YtacnclofbnafiabGreatDoor
