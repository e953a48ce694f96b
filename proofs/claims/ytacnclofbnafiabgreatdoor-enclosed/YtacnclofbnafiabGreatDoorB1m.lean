import Derived.Test.YtacnclofbnafiabGreatDoorB1
import Derived.Test.YtacnclofbnafiabGreatDoorK8
namespace Go.Proofs.YtacnclofbnafiabGreatDoor
open Go.RowKit Fl

set_option maxHeartbeats 4000000 in
theorem boxMul_w (X1 X2 X3 X4 Y1 Y2 Y3 Y4 p1 p2 q1 q2 r1 r2 t1 t2 u1 u2 u3 u4 g1 g2 g3 g4 : Nat)
    (m1 : ∀ w, Calls Tryz.prog 120 #[.agg #[.float .f64 X1, .float .f64 X2], .agg #[.float .f64 Y1, .float .f64 Y2]] w fun e w' => e = .returned (.agg #[.float .f64 p1, .float .f64 p2]) ∧ Below w.heap.size w w')
    (m2 : ∀ w, Calls Tryz.prog 120 #[.agg #[.float .f64 X3, .float .f64 X4], .agg #[.float .f64 Y3, .float .f64 Y4]] w fun e w' => e = .returned (.agg #[.float .f64 q1, .float .f64 q2]) ∧ Below w.heap.size w w')
    (m3 : ∀ w, Calls Tryz.prog 120 #[.agg #[.float .f64 X1, .float .f64 X2], .agg #[.float .f64 Y3, .float .f64 Y4]] w fun e w' => e = .returned (.agg #[.float .f64 r1, .float .f64 r2]) ∧ Below w.heap.size w w')
    (m4 : ∀ w, Calls Tryz.prog 120 #[.agg #[.float .f64 X3, .float .f64 X4], .agg #[.float .f64 Y1, .float .f64 Y2]] w fun e w' => e = .returned (.agg #[.float .f64 t1, .float .f64 t2]) ∧ Below w.heap.size w w')
    (a1 : ∀ w, Calls Tryz.prog 119 #[.agg #[.float .f64 p1, .float .f64 p2], .agg #[.float .f64 q1, .float .f64 q2]] w fun e w' => e = .returned (.agg #[.float .f64 u1, .float .f64 u2]) ∧ Below w.heap.size w w')
    (a2 : ∀ w, Calls Tryz.prog 118 #[.agg #[.float .f64 r1, .float .f64 r2], .agg #[.float .f64 t1, .float .f64 t2]] w fun e w' => e = .returned (.agg #[.float .f64 u3, .float .f64 u4]) ∧ Below w.heap.size w w')
    (bo : ∀ w, Calls Tryz.prog 117 #[.agg #[.float .f64 u1, .float .f64 u2], .agg #[.float .f64 u3, .float .f64 u4]] w fun e w' => e = .returned (.agg #[.float .f64 g1, .float .f64 g2, .float .f64 g3, .float .f64 g4]) ∧ Below w.heap.size w w') (w : World) :
    Calls Tryz.prog 87 #[.agg #[.float .f64 X1, .float .f64 X2, .float .f64 X3, .float .f64 X4], .agg #[.float .f64 Y1, .float .f64 Y2, .float .f64 Y3, .float .f64 Y4]] w fun e w' => e = .returned (.agg #[.float .f64 g1, .float .f64 g2, .float .f64 g3, .float .f64 g4]) ∧ Below w.heap.size w w' := by
  go_enter Tryz.func87, Tryz.ntmps87
  go_wp2_with fail
  obtain ⟨w0, hw0⟩ : ∃ v, v = (((w.alloc (.cells #[.float .f64 X1, .float .f64 X2, .float .f64 X3, .float .f64 X4] 39)).alloc (.cells #[.float .f64 Y1, .float .f64 Y2, .float .f64 Y3, .float .f64 Y4] 39)).alloc (.cells #[.float .f64 0, .float .f64 0, .float .f64 0, .float .f64 0] 39)) := ⟨_, rfl⟩
  rw [← hw0]
  have c00 : w0.cell? ⟨w.heap.size, 0, none⟩ = some (.float .f64 X1) := by simp [hw0, go_sem]
  have c01 : w0.cell? ⟨w.heap.size, 1, none⟩ = some (.float .f64 X2) := by simp [hw0, go_sem]
  have c02 : w0.cell? ⟨w.heap.size, 2, none⟩ = some (.float .f64 X3) := by simp [hw0, go_sem]
  have c03 : w0.cell? ⟨w.heap.size, 3, none⟩ = some (.float .f64 X4) := by simp [hw0, go_sem]
  have c10 : w0.cell? ⟨w.heap.size + 1, 0, none⟩ = some (.float .f64 Y1) := by simp [hw0, go_sem]
  have c11 : w0.cell? ⟨w.heap.size + 1, 1, none⟩ = some (.float .f64 Y2) := by simp [hw0, go_sem]
  have c12 : w0.cell? ⟨w.heap.size + 1, 2, none⟩ = some (.float .f64 Y3) := by simp [hw0, go_sem]
  have c13 : w0.cell? ⟨w.heap.size + 1, 3, none⟩ = some (.float .f64 Y4) := by simp [hw0, go_sem]
  have c20 : w0.cell? ⟨w.heap.size + 1 + 1, 0, none⟩ = some (.float .f64 0) := by simp [hw0, go_sem]
  have fc20 : w0.frozen? ⟨w.heap.size + 1 + 1, 0, none⟩ = false := by simp [hw0, go_sem]
  have c21 : w0.cell? ⟨w.heap.size + 1 + 1, 1, none⟩ = some (.float .f64 0) := by simp [hw0, go_sem]
  have fc21 : w0.frozen? ⟨w.heap.size + 1 + 1, 1, none⟩ = false := by simp [hw0, go_sem]
  have c22 : w0.cell? ⟨w.heap.size + 1 + 1, 2, none⟩ = some (.float .f64 0) := by simp [hw0, go_sem]
  have fc22 : w0.frozen? ⟨w.heap.size + 1 + 1, 2, none⟩ = false := by simp [hw0, go_sem]
  have c23 : w0.cell? ⟨w.heap.size + 1 + 1, 3, none⟩ = some (.float .f64 0) := by simp [hw0, go_sem]
  have fc23 : w0.frozen? ⟨w.heap.size + 1 + 1, 3, none⟩ = false := by simp [hw0, go_sem]
  have s0 : w.heap.size + 1 + 1 + 1 ≤ w0.heap.size := by simp [hw0]
  have hB0 : Below w.heap.size w w0 := by
    rw [hw0]
    repeat (with_reducible first | exact Below.refl _ _ | assumption | refine Below.drew ?_ | refine bl_drewN ?_ _ | refine Below.setCell ?_ (by first | omega | (simp; done) | (simp; omega)) _ | refine Below.alloc ?_ (by first | omega | (simp; done) | (simp; omega)) _ | refine bl_next ?_ (by assumption) | refine bl_trans ?_ (by assumption) (by first | omega | (simp; done) | (simp; omega)))
  clear hw0
  go_cut [5] (fun s5 wx => ∃ b : Nat, s5 = .pointer (some ⟨b, 0, none⟩) ∧ wx.cell? ⟨b, 0, none⟩ = some (.float .f64 u1) ∧ wx.cell? ⟨b, 1, none⟩ = some (.float .f64 u2) ∧ w0.heap.size ≤ b ∧ Below w0.heap.size w0 wx)
  case first =>
    go_region_held3 (fun w' => w'.cell? ⟨w.heap.size, 0, none⟩ = some (.float .f64 X1) ∧ w'.cell? ⟨w.heap.size, 1, none⟩ = some (.float .f64 X2) ∧ w'.cell? ⟨w.heap.size, 2, none⟩ = some (.float .f64 X3) ∧ w'.cell? ⟨w.heap.size, 3, none⟩ = some (.float .f64 X4) ∧ w'.cell? ⟨w.heap.size + 1, 0, none⟩ = some (.float .f64 Y1) ∧ w'.cell? ⟨w.heap.size + 1, 1, none⟩ = some (.float .f64 Y2) ∧ w'.cell? ⟨w.heap.size + 1, 2, none⟩ = some (.float .f64 Y3) ∧ w'.cell? ⟨w.heap.size + 1, 3, none⟩ = some (.float .f64 Y4)) (((try dsimp only); (repeat' apply And.intro) <;> first | exact bkeep (W := w0) (n := w0.heap.size) (by repeat (first | exact Below.refl _ _ | assumption | refine Below.drew ?_ | refine bl_drewN ?_ _ | refine bl_alloc ?_ | refine bl_next ?_ (by assumption) | refine bl_set ?_ (by first | omega | (simp; done) | (simp; omega) | exact Below.size (B := w0.heap.size) (by repeat (first | exact Below.refl _ _ | assumption | refine Below.drew ?_ | refine bl_drewN ?_ _ | refine bl_alloc ?_ | refine bl_next ?_ (by assumption) | refine bl_set ?_ (by first | omega | (simp; done) | (simp; omega))))))) (by assumption) (by first | omega | (simp; done) | (simp; omega)))) (first | (go_at_call 120; with_reducible refine (m1 _).mono ?_; rintro e w' ⟨rfl, hb⟩; (try have z := bnew hb); (try have z := bnewD hb); (try have z := bold hb z); (try simp only [World.size_drew] at z)) | (go_at_call 120; with_reducible refine (m2 _).mono ?_; rintro e w' ⟨rfl, hb⟩; (try have z := bnew hb); (try have z := bnewD hb); (try have z := bold hb z); (try simp only [World.size_drew] at z)) | (go_at_call 119; with_reducible refine (a1 _).mono ?_; rintro e w' ⟨rfl, hb⟩; (try have z := bnew hb); (try have z := bnewD hb); (try have z := bold hb z); (try simp only [World.size_drew] at z)))
    all_goals (go_wp2_with fail; go_meet; (case rel => exact ⟨_, rfl, (by first | (simp [go_sem]; done) | (simp [*]; done) | simp [go_sem, *]), (by first | (simp [go_sem]; done) | (simp [*]; done) | simp [go_sem, *]), (by first | omega | (simp; done) | exact Below.size (B := w0.heap.size) (by repeat (first | exact Below.refl _ _ | assumption | refine Below.drew ?_ | refine bl_drewN ?_ _ | refine bl_alloc ?_ | refine bl_next ?_ (by assumption) | refine bl_set ?_ (by first | omega | (simp; done) | (simp; omega))))), (by repeat (first | exact Below.refl _ _ | assumption | refine Below.drew ?_ | refine bl_drewN ?_ _ | refine bl_alloc ?_ | refine bl_next ?_ (by assumption) | refine bl_set ?_ (by first | omega | (simp; done) | (simp; omega) | exact Below.size (B := w0.heap.size) (by repeat (first | exact Below.refl _ _ | assumption | refine Below.drew ?_ | refine bl_drewN ?_ _ | refine bl_alloc ?_ | refine bl_next ?_ (by assumption) | refine bl_set ?_ (by first | omega | (simp; done) | (simp; omega)))))))⟩))
  case rest =>
    obtain ⟨m5, rfl, e1, e2, le5, hb3⟩ := hcut
    obtain ⟨w3, rfl⟩ : ∃ v, v = wc := ⟨wc, rfl⟩
    have s3 := hb3.size
    have : w3.cell? ⟨w.heap.size, 0, none⟩ = some (.float .f64 X1) := bkeep hb3 (by assumption) (by first | omega | (simp; done) | (simp; omega))
    have : w3.cell? ⟨w.heap.size, 1, none⟩ = some (.float .f64 X2) := bkeep hb3 (by assumption) (by first | omega | (simp; done) | (simp; omega))
    have : w3.cell? ⟨w.heap.size, 2, none⟩ = some (.float .f64 X3) := bkeep hb3 (by assumption) (by first | omega | (simp; done) | (simp; omega))
    have : w3.cell? ⟨w.heap.size, 3, none⟩ = some (.float .f64 X4) := bkeep hb3 (by assumption) (by first | omega | (simp; done) | (simp; omega))
    have : w3.cell? ⟨w.heap.size + 1, 0, none⟩ = some (.float .f64 Y1) := bkeep hb3 (by assumption) (by first | omega | (simp; done) | (simp; omega))
    have : w3.cell? ⟨w.heap.size + 1, 1, none⟩ = some (.float .f64 Y2) := bkeep hb3 (by assumption) (by first | omega | (simp; done) | (simp; omega))
    have : w3.cell? ⟨w.heap.size + 1, 2, none⟩ = some (.float .f64 Y3) := bkeep hb3 (by assumption) (by first | omega | (simp; done) | (simp; omega))
    have : w3.cell? ⟨w.heap.size + 1, 3, none⟩ = some (.float .f64 Y4) := bkeep hb3 (by assumption) (by first | omega | (simp; done) | (simp; omega))
    have : w3.cell? ⟨w.heap.size + 1 + 1, 0, none⟩ = some (.float .f64 0) := bkeep hb3 (by assumption) (by first | omega | (simp; done) | (simp; omega))
    have : w3.frozen? ⟨w.heap.size + 1 + 1, 0, none⟩ = false := bfroz hb3 (by assumption) (by first | omega | (simp; done) | (simp; omega))
    have : w3.cell? ⟨w.heap.size + 1 + 1, 1, none⟩ = some (.float .f64 0) := bkeep hb3 (by assumption) (by first | omega | (simp; done) | (simp; omega))
    have : w3.frozen? ⟨w.heap.size + 1 + 1, 1, none⟩ = false := bfroz hb3 (by assumption) (by first | omega | (simp; done) | (simp; omega))
    have : w3.cell? ⟨w.heap.size + 1 + 1, 2, none⟩ = some (.float .f64 0) := bkeep hb3 (by assumption) (by first | omega | (simp; done) | (simp; omega))
    have : w3.frozen? ⟨w.heap.size + 1 + 1, 2, none⟩ = false := bfroz hb3 (by assumption) (by first | omega | (simp; done) | (simp; omega))
    have : w3.cell? ⟨w.heap.size + 1 + 1, 3, none⟩ = some (.float .f64 0) := bkeep hb3 (by assumption) (by first | omega | (simp; done) | (simp; omega))
    have : w3.frozen? ⟨w.heap.size + 1 + 1, 3, none⟩ = false := bfroz hb3 (by assumption) (by first | omega | (simp; done) | (simp; omega))
    go_wp2_with fail
    go_cut [6] (fun s5 wx => ∃ b : Nat, s5 = .pointer (some ⟨b, 0, none⟩) ∧ wx.cell? ⟨b, 0, none⟩ = some (.float .f64 u3) ∧ wx.cell? ⟨b, 1, none⟩ = some (.float .f64 u4) ∧ w3.heap.size ≤ b ∧ Below w3.heap.size w3 wx)
    case first =>
      go_region_held3 (fun w' => w'.cell? ⟨w.heap.size, 0, none⟩ = some (.float .f64 X1) ∧ w'.cell? ⟨w.heap.size, 1, none⟩ = some (.float .f64 X2) ∧ w'.cell? ⟨w.heap.size, 2, none⟩ = some (.float .f64 X3) ∧ w'.cell? ⟨w.heap.size, 3, none⟩ = some (.float .f64 X4) ∧ w'.cell? ⟨w.heap.size + 1, 0, none⟩ = some (.float .f64 Y1) ∧ w'.cell? ⟨w.heap.size + 1, 1, none⟩ = some (.float .f64 Y2) ∧ w'.cell? ⟨w.heap.size + 1, 2, none⟩ = some (.float .f64 Y3) ∧ w'.cell? ⟨w.heap.size + 1, 3, none⟩ = some (.float .f64 Y4)) (((try dsimp only); (repeat' apply And.intro) <;> first | exact bkeep (W := w3) (n := w3.heap.size) (by repeat (first | exact Below.refl _ _ | assumption | refine Below.drew ?_ | refine bl_drewN ?_ _ | refine bl_alloc ?_ | refine bl_next ?_ (by assumption) | refine bl_set ?_ (by first | omega | (simp; done) | (simp; omega) | exact Below.size (B := w3.heap.size) (by repeat (first | exact Below.refl _ _ | assumption | refine Below.drew ?_ | refine bl_drewN ?_ _ | refine bl_alloc ?_ | refine bl_next ?_ (by assumption) | refine bl_set ?_ (by first | omega | (simp; done) | (simp; omega))))))) (by assumption) (by first | omega | (simp; done) | (simp; omega)))) (first | (go_at_call 120; with_reducible refine (m3 _).mono ?_; rintro e w' ⟨rfl, hb⟩; (try have z := bnew hb); (try have z := bnewD hb); (try have z := bold hb z); (try simp only [World.size_drew] at z)) | (go_at_call 120; with_reducible refine (m4 _).mono ?_; rintro e w' ⟨rfl, hb⟩; (try have z := bnew hb); (try have z := bnewD hb); (try have z := bold hb z); (try simp only [World.size_drew] at z)) | (go_at_call 118; with_reducible refine (a2 _).mono ?_; rintro e w' ⟨rfl, hb⟩; (try have z := bnew hb); (try have z := bnewD hb); (try have z := bold hb z); (try simp only [World.size_drew] at z)))
      all_goals (go_wp2_with fail; go_meet; (case rel => exact ⟨_, rfl, (by first | (simp [go_sem]; done) | (simp [*]; done) | simp [go_sem, *]), (by first | (simp [go_sem]; done) | (simp [*]; done) | simp [go_sem, *]), (by first | omega | (simp; done) | exact Below.size (B := w3.heap.size) (by repeat (first | exact Below.refl _ _ | assumption | refine Below.drew ?_ | refine bl_drewN ?_ _ | refine bl_alloc ?_ | refine bl_next ?_ (by assumption) | refine bl_set ?_ (by first | omega | (simp; done) | (simp; omega))))), (by repeat (first | exact Below.refl _ _ | assumption | refine Below.drew ?_ | refine bl_drewN ?_ _ | refine bl_alloc ?_ | refine bl_next ?_ (by assumption) | refine bl_set ?_ (by first | omega | (simp; done) | (simp; omega) | exact Below.size (B := w3.heap.size) (by repeat (first | exact Below.refl _ _ | assumption | refine Below.drew ?_ | refine bl_drewN ?_ _ | refine bl_alloc ?_ | refine bl_next ?_ (by assumption) | refine bl_set ?_ (by first | omega | (simp; done) | (simp; omega)))))))⟩))
    case rest =>
      obtain ⟨m6, rfl, e3, e4, le6, hb4⟩ := hcut
      obtain ⟨w4, rfl⟩ : ∃ v, v = wc := ⟨wc, rfl⟩
      have s4 := hb4.size
      have : w4.cell? ⟨w.heap.size, 0, none⟩ = some (.float .f64 X1) := bkeep hb4 (by assumption) (by first | omega | (simp; done) | (simp; omega))
      have : w4.cell? ⟨w.heap.size, 1, none⟩ = some (.float .f64 X2) := bkeep hb4 (by assumption) (by first | omega | (simp; done) | (simp; omega))
      have : w4.cell? ⟨w.heap.size, 2, none⟩ = some (.float .f64 X3) := bkeep hb4 (by assumption) (by first | omega | (simp; done) | (simp; omega))
      have : w4.cell? ⟨w.heap.size, 3, none⟩ = some (.float .f64 X4) := bkeep hb4 (by assumption) (by first | omega | (simp; done) | (simp; omega))
      have : w4.cell? ⟨w.heap.size + 1, 0, none⟩ = some (.float .f64 Y1) := bkeep hb4 (by assumption) (by first | omega | (simp; done) | (simp; omega))
      have : w4.cell? ⟨w.heap.size + 1, 1, none⟩ = some (.float .f64 Y2) := bkeep hb4 (by assumption) (by first | omega | (simp; done) | (simp; omega))
      have : w4.cell? ⟨w.heap.size + 1, 2, none⟩ = some (.float .f64 Y3) := bkeep hb4 (by assumption) (by first | omega | (simp; done) | (simp; omega))
      have : w4.cell? ⟨w.heap.size + 1, 3, none⟩ = some (.float .f64 Y4) := bkeep hb4 (by assumption) (by first | omega | (simp; done) | (simp; omega))
      have : w4.cell? ⟨w.heap.size + 1 + 1, 0, none⟩ = some (.float .f64 0) := bkeep hb4 (by assumption) (by first | omega | (simp; done) | (simp; omega))
      have : w4.frozen? ⟨w.heap.size + 1 + 1, 0, none⟩ = false := bfroz hb4 (by assumption) (by first | omega | (simp; done) | (simp; omega))
      have : w4.cell? ⟨w.heap.size + 1 + 1, 1, none⟩ = some (.float .f64 0) := bkeep hb4 (by assumption) (by first | omega | (simp; done) | (simp; omega))
      have : w4.frozen? ⟨w.heap.size + 1 + 1, 1, none⟩ = false := bfroz hb4 (by assumption) (by first | omega | (simp; done) | (simp; omega))
      have : w4.cell? ⟨w.heap.size + 1 + 1, 2, none⟩ = some (.float .f64 0) := bkeep hb4 (by assumption) (by first | omega | (simp; done) | (simp; omega))
      have : w4.frozen? ⟨w.heap.size + 1 + 1, 2, none⟩ = false := bfroz hb4 (by assumption) (by first | omega | (simp; done) | (simp; omega))
      have : w4.cell? ⟨w.heap.size + 1 + 1, 3, none⟩ = some (.float .f64 0) := bkeep hb4 (by assumption) (by first | omega | (simp; done) | (simp; omega))
      have : w4.frozen? ⟨w.heap.size + 1 + 1, 3, none⟩ = false := bfroz hb4 (by assumption) (by first | omega | (simp; done) | (simp; omega))
      replace e1 := bkeep2 hb4 e1
      replace e2 := bkeep2 hb4 e2
      go_wp2_with fail
      go_at_call 117
      refine (bo _).mono ?_
      rintro e w5 ⟨rfl, hb5⟩
      have s5 := hb5.size
      have : w5.cell? ⟨w.heap.size + 1 + 1, 0, none⟩ = some (.float .f64 0) := bkeep hb5 (by assumption) (by first | omega | (simp; done) | (simp; omega))
      have : w5.frozen? ⟨w.heap.size + 1 + 1, 0, none⟩ = false := bfroz hb5 (by assumption) (by first | omega | (simp; done) | (simp; omega))
      have : w5.cell? ⟨w.heap.size + 1 + 1, 1, none⟩ = some (.float .f64 0) := bkeep hb5 (by assumption) (by first | omega | (simp; done) | (simp; omega))
      have : w5.frozen? ⟨w.heap.size + 1 + 1, 1, none⟩ = false := bfroz hb5 (by assumption) (by first | omega | (simp; done) | (simp; omega))
      have : w5.cell? ⟨w.heap.size + 1 + 1, 2, none⟩ = some (.float .f64 0) := bkeep hb5 (by assumption) (by first | omega | (simp; done) | (simp; omega))
      have : w5.frozen? ⟨w.heap.size + 1 + 1, 2, none⟩ = false := bfroz hb5 (by assumption) (by first | omega | (simp; done) | (simp; omega))
      have : w5.cell? ⟨w.heap.size + 1 + 1, 3, none⟩ = some (.float .f64 0) := bkeep hb5 (by assumption) (by first | omega | (simp; done) | (simp; omega))
      have : w5.frozen? ⟨w.heap.size + 1 + 1, 3, none⟩ = false := bfroz hb5 (by assumption) (by first | omega | (simp; done) | (simp; omega))
      go_wp2_with fail
      refine bodyPost_ret (v := .agg #[.float .f64 g1, .float .f64 g2, .float .f64 g3, .float .f64 g4]) (by simp [results, Tryz.results87, go_sem, *]) rfl ⟨rfl, ?_⟩
      repeat (with_reducible first | exact Below.refl _ _ | assumption | refine Below.drew ?_ | refine bl_drewN ?_ _ | refine Below.setCell ?_ (by first | omega | (simp; done) | (simp; omega)) _ | refine Below.alloc ?_ (by first | omega | (simp; done) | (simp; omega)) _ | refine bl_next ?_ (by assumption) | refine bl_trans ?_ (by assumption) (by first | omega | (simp; done) | (simp; omega)))

end Go.Proofs.YtacnclofbnafiabGreatDoor
