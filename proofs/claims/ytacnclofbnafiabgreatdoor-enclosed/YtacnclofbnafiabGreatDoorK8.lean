import Derived.Test.YtacnclofbnafiabGreatDoorKB
import Derived.Deep.DeepCutAuto
namespace Go.Proofs.YtacnclofbnafiabGreatDoor
open Go.RowKit Fl

theorem bnew {u w' : World} {a b : Value} {t : TypeId} (hb : Below (u.alloc (.cells #[a, b] t)).heap.size (u.alloc (.cells #[a, b] t)) w') :
    w'.cell? ⟨u.heap.size, 0, none⟩ = some a ∧ w'.cell? ⟨u.heap.size, 1, none⟩ = some b ∧ w'.frozen? ⟨u.heap.size, 0, none⟩ = false ∧ w'.frozen? ⟨u.heap.size, 1, none⟩ = false :=
  ⟨bkeep hb (by simp) (by simp), bkeep hb (by simp) (by simp), bfroz hb (by simp) (by simp), bfroz hb (by simp) (by simp)⟩
theorem bnewD {u w' : World} {a b : Value} {t : TypeId} (hb : Below (u.alloc (.cells #[a, b] t)).drew.heap.size (u.alloc (.cells #[a, b] t)).drew w') :
    w'.cell? ⟨u.heap.size, 0, none⟩ = some a ∧ w'.cell? ⟨u.heap.size, 1, none⟩ = some b ∧ w'.frozen? ⟨u.heap.size, 0, none⟩ = false ∧ w'.frozen? ⟨u.heap.size, 1, none⟩ = false :=
  ⟨bkeep hb (by simp) (by simp), bkeep hb (by simp) (by simp), bfroz hb (by simp) (by simp), bfroz hb (by simp) (by simp)⟩
theorem bold {u w' : World} {a b : Value} {n m : Nat} (hb : Below u.heap.size u w') (h : u.cell? ⟨n, 0, none⟩ = some a ∧ u.cell? ⟨m, 1, none⟩ = some b ∧ u.frozen? ⟨n, 0, none⟩ = false ∧ u.frozen? ⟨m, 1, none⟩ = false) :
    w'.cell? ⟨n, 0, none⟩ = some a ∧ w'.cell? ⟨m, 1, none⟩ = some b ∧ w'.frozen? ⟨n, 0, none⟩ = false ∧ w'.frozen? ⟨m, 1, none⟩ = false :=
  ⟨bkeep2 hb h.1, bkeep2 hb h.2.1, bfroz2 hb h.1 h.2.2.1, bfroz2 hb h.2.1 h.2.2.2⟩

set_option maxHeartbeats 4000000 in
theorem mul_ok_w (X1 X2 Y1 Y2 a1 b1 a2 b2 a3 b3 a4 b4 l1 h1 l2 h2 l h : Nat)
    (nx : ∀ w, Calls Tryz.prog 121 #[.agg #[.float .f64 X1, .float .f64 X2]] w fun e w' => e = .returned (.bool false) ∧ Below w.heap.size w w')
    (ny : ∀ w, Calls Tryz.prog 121 #[.agg #[.float .f64 Y1, .float .f64 Y2]] w fun e w' => e = .returned (.bool false) ∧ Below w.heap.size w w')
    (k1 : ∀ w, Calls Tryz.prog 149 #[.float .f64 X1, .float .f64 Y1] w fun e w' => e = .returned (.agg #[.float .f64 a1, .float .f64 b1]) ∧ Below w.heap.size w w')
    (k2 : ∀ w, Calls Tryz.prog 149 #[.float .f64 X1, .float .f64 Y2] w fun e w' => e = .returned (.agg #[.float .f64 a2, .float .f64 b2]) ∧ Below w.heap.size w w')
    (k3 : ∀ w, Calls Tryz.prog 149 #[.float .f64 X2, .float .f64 Y1] w fun e w' => e = .returned (.agg #[.float .f64 a3, .float .f64 b3]) ∧ Below w.heap.size w w')
    (k4 : ∀ w, Calls Tryz.prog 149 #[.float .f64 X2, .float .f64 Y2] w fun e w' => e = .returned (.agg #[.float .f64 a4, .float .f64 b4]) ∧ Below w.heap.size w w')
    (v1 : ∀ w, Calls Tryz.prog 148 #[.agg #[.float .f64 a1, .float .f64 b1], .agg #[.float .f64 a2, .float .f64 b2]] w fun e w' => e = .returned (.agg #[.float .f64 l1, .float .f64 h1]) ∧ Below w.heap.size w w')
    (v2 : ∀ w, Calls Tryz.prog 148 #[.agg #[.float .f64 a3, .float .f64 b3], .agg #[.float .f64 a4, .float .f64 b4]] w fun e w' => e = .returned (.agg #[.float .f64 l2, .float .f64 h2]) ∧ Below w.heap.size w w')
    (v3 : ∀ w, Calls Tryz.prog 148 #[.agg #[.float .f64 l1, .float .f64 h1], .agg #[.float .f64 l2, .float .f64 h2]] w fun e w' => e = .returned (.agg #[.float .f64 l, .float .f64 h]) ∧ Below w.heap.size w w') (w : World) :
    Calls Tryz.prog 120 #[.agg #[.float .f64 X1, .float .f64 X2], .agg #[.float .f64 Y1, .float .f64 Y2]] w fun e w' => e = .returned (.agg #[.float .f64 l, .float .f64 h]) ∧ Below w.heap.size w w' := by
  go_enter Tryz.func120, Tryz.ntmps120
  go_wp2_with fail
  go_at_call 121
  refine (nx _).mono ?_
  rintro e w1 ⟨rfl, hb1⟩
  have s1 := hb1.size
  try simp at s1
  have l1_0 : w.heap.size < w1.heap.size := (by omega)
  have c1_1_0 : w1.cell? ⟨w.heap.size, 0, none⟩ = some (.float .f64 X1) := bkeep hb1 (by first | assumption | (simp [go_sem]; done) | (simp [*]; done) | (simp [go_sem, *]; done) | exact bkeep (bl_alloc (Below.refl _ _)) (by assumption) (by first | omega | (simp; done) | (simp; omega))) (by first | omega | (simp; done) | (simp; omega))
  have c1_2_1 : w1.cell? ⟨w.heap.size, 1, none⟩ = some (.float .f64 X2) := bkeep hb1 (by first | assumption | (simp [go_sem]; done) | (simp [*]; done) | (simp [go_sem, *]; done) | exact bkeep (bl_alloc (Below.refl _ _)) (by assumption) (by first | omega | (simp; done) | (simp; omega))) (by first | omega | (simp; done) | (simp; omega))
  have l1_3 : w.heap.size + 1 < w1.heap.size := (by omega)
  have c1_4_0 : w1.cell? ⟨w.heap.size + 1, 0, none⟩ = some (.float .f64 Y1) := bkeep hb1 (by first | assumption | (simp [go_sem]; done) | (simp [*]; done) | (simp [go_sem, *]; done) | exact bkeep (bl_alloc (Below.refl _ _)) (by assumption) (by first | omega | (simp; done) | (simp; omega))) (by first | omega | (simp; done) | (simp; omega))
  have c1_5_1 : w1.cell? ⟨w.heap.size + 1, 1, none⟩ = some (.float .f64 Y2) := bkeep hb1 (by first | assumption | (simp [go_sem]; done) | (simp [*]; done) | (simp [go_sem, *]; done) | exact bkeep (bl_alloc (Below.refl _ _)) (by assumption) (by first | omega | (simp; done) | (simp; omega))) (by first | omega | (simp; done) | (simp; omega))
  have l1_6 : w.heap.size + 1 + 1 < w1.heap.size := (by omega)
  have c1_7_0 : w1.cell? ⟨w.heap.size + 1 + 1, 0, none⟩ = some (.float .f64 0) := bkeep hb1 (by first | assumption | (simp [go_sem]; done) | (simp [*]; done) | (simp [go_sem, *]; done) | exact bkeep (bl_alloc (Below.refl _ _)) (by assumption) (by first | omega | (simp; done) | (simp; omega))) (by first | omega | (simp; done) | (simp; omega))
  have f1_7_0 : w1.frozen? ⟨w.heap.size + 1 + 1, 0, none⟩ = false := bfroz hb1 (by first | assumption | (simp [go_sem]; done) | (simp [*]; done) | (simp [go_sem, *]; done) | exact bfroz (bl_alloc (Below.refl _ _)) (by assumption) (by first | omega | (simp; done) | (simp; omega))) (by first | omega | (simp; done) | (simp; omega))
  have c1_8_1 : w1.cell? ⟨w.heap.size + 1 + 1, 1, none⟩ = some (.float .f64 0) := bkeep hb1 (by first | assumption | (simp [go_sem]; done) | (simp [*]; done) | (simp [go_sem, *]; done) | exact bkeep (bl_alloc (Below.refl _ _)) (by assumption) (by first | omega | (simp; done) | (simp; omega))) (by first | omega | (simp; done) | (simp; omega))
  have f1_8_1 : w1.frozen? ⟨w.heap.size + 1 + 1, 1, none⟩ = false := bfroz hb1 (by first | assumption | (simp [go_sem]; done) | (simp [*]; done) | (simp [go_sem, *]; done) | exact bfroz (bl_alloc (Below.refl _ _)) (by assumption) (by first | omega | (simp; done) | (simp; omega))) (by first | omega | (simp; done) | (simp; omega))
  go_wp2_with fail
  go_at_call 121
  refine (ny _).mono ?_
  rintro e w2 ⟨rfl, hb2⟩
  have s2 := hb2.size
  try simp at s2
  have l2_0 : w.heap.size < w2.heap.size := (by omega)
  have c2_1_0 : w2.cell? ⟨w.heap.size, 0, none⟩ = some (.float .f64 X1) := bkeep hb2 (by first | assumption | (simp [go_sem]; done) | (simp [*]; done) | (simp [go_sem, *]; done) | exact bkeep (bl_alloc (Below.refl _ _)) (by assumption) (by first | omega | (simp; done) | (simp; omega))) (by first | omega | (simp; done) | (simp; omega))
  have c2_2_1 : w2.cell? ⟨w.heap.size, 1, none⟩ = some (.float .f64 X2) := bkeep hb2 (by first | assumption | (simp [go_sem]; done) | (simp [*]; done) | (simp [go_sem, *]; done) | exact bkeep (bl_alloc (Below.refl _ _)) (by assumption) (by first | omega | (simp; done) | (simp; omega))) (by first | omega | (simp; done) | (simp; omega))
  have l2_3 : w.heap.size + 1 < w2.heap.size := (by omega)
  have c2_4_0 : w2.cell? ⟨w.heap.size + 1, 0, none⟩ = some (.float .f64 Y1) := bkeep hb2 (by first | assumption | (simp [go_sem]; done) | (simp [*]; done) | (simp [go_sem, *]; done) | exact bkeep (bl_alloc (Below.refl _ _)) (by assumption) (by first | omega | (simp; done) | (simp; omega))) (by first | omega | (simp; done) | (simp; omega))
  have c2_5_1 : w2.cell? ⟨w.heap.size + 1, 1, none⟩ = some (.float .f64 Y2) := bkeep hb2 (by first | assumption | (simp [go_sem]; done) | (simp [*]; done) | (simp [go_sem, *]; done) | exact bkeep (bl_alloc (Below.refl _ _)) (by assumption) (by first | omega | (simp; done) | (simp; omega))) (by first | omega | (simp; done) | (simp; omega))
  have l2_6 : w.heap.size + 1 + 1 < w2.heap.size := (by omega)
  have c2_7_0 : w2.cell? ⟨w.heap.size + 1 + 1, 0, none⟩ = some (.float .f64 0) := bkeep hb2 (by first | assumption | (simp [go_sem]; done) | (simp [*]; done) | (simp [go_sem, *]; done) | exact bkeep (bl_alloc (Below.refl _ _)) (by assumption) (by first | omega | (simp; done) | (simp; omega))) (by first | omega | (simp; done) | (simp; omega))
  have f2_7_0 : w2.frozen? ⟨w.heap.size + 1 + 1, 0, none⟩ = false := bfroz hb2 (by first | assumption | (simp [go_sem]; done) | (simp [*]; done) | (simp [go_sem, *]; done) | exact bfroz (bl_alloc (Below.refl _ _)) (by assumption) (by first | omega | (simp; done) | (simp; omega))) (by first | omega | (simp; done) | (simp; omega))
  have c2_8_1 : w2.cell? ⟨w.heap.size + 1 + 1, 1, none⟩ = some (.float .f64 0) := bkeep hb2 (by first | assumption | (simp [go_sem]; done) | (simp [*]; done) | (simp [go_sem, *]; done) | exact bkeep (bl_alloc (Below.refl _ _)) (by assumption) (by first | omega | (simp; done) | (simp; omega))) (by first | omega | (simp; done) | (simp; omega))
  have f2_8_1 : w2.frozen? ⟨w.heap.size + 1 + 1, 1, none⟩ = false := bfroz hb2 (by first | assumption | (simp [go_sem]; done) | (simp [*]; done) | (simp [go_sem, *]; done) | exact bfroz (bl_alloc (Below.refl _ _)) (by assumption) (by first | omega | (simp; done) | (simp; omega))) (by first | omega | (simp; done) | (simp; omega))
  clear l1_0 c1_1_0 c1_2_1 l1_3 c1_4_0 c1_5_1 l1_6 c1_7_0 f1_7_0 c1_8_1 f1_8_1
  go_wp2_with fail
  go_cut [5] (fun s5 wx => ∃ b : Nat, s5 = .pointer (some ⟨b, 0, none⟩) ∧ wx.cell? ⟨b, 0, none⟩ = some (.float .f64 l1) ∧ wx.cell? ⟨b, 1, none⟩ = some (.float .f64 h1) ∧ w2.heap.size ≤ b ∧ Below w2.heap.size w2 wx)
  case first =>
    go_region_held3 (fun w' => w'.cell? ⟨w.heap.size, 0, none⟩ = some (.float .f64 X1) ∧ w'.cell? ⟨w.heap.size, 1, none⟩ = some (.float .f64 X2) ∧ w'.cell? ⟨w.heap.size + 1, 0, none⟩ = some (.float .f64 Y1) ∧ w'.cell? ⟨w.heap.size + 1, 1, none⟩ = some (.float .f64 Y2)) (((try dsimp only); (repeat' apply And.intro) <;> first | exact bkeep (W := w2) (n := w2.heap.size) (by repeat (first | exact Below.refl _ _ | assumption | refine Below.drew ?_ | refine bl_drewN ?_ _ | refine bl_alloc ?_ | refine bl_next ?_ (by assumption) | refine bl_set ?_ (by first | omega | (simp; done) | (simp; omega) | exact Below.size (B := w2.heap.size) (by repeat (first | exact Below.refl _ _ | assumption | refine Below.drew ?_ | refine bl_drewN ?_ _ | refine bl_alloc ?_ | refine bl_next ?_ (by assumption) | refine bl_set ?_ (by first | omega | (simp; done) | (simp; omega))))))) (by assumption) (by first | omega | (simp; done) | (simp; omega)))) (first | (go_at_call 149; with_reducible refine (k1 _).mono ?_; rintro e w' ⟨rfl, hb⟩; (try have z := bnew hb); (try have z := bnewD hb); (try have z := bold hb z); (try simp only [World.size_drew] at z)) | (go_at_call 149; with_reducible refine (k2 _).mono ?_; rintro e w' ⟨rfl, hb⟩; (try have z := bnew hb); (try have z := bnewD hb); (try have z := bold hb z); (try simp only [World.size_drew] at z)) | (go_at_call 148; with_reducible refine (v1 _).mono ?_; rintro e w' ⟨rfl, hb⟩; (try have z := bnew hb); (try have z := bnewD hb); (try have z := bold hb z); (try simp only [World.size_drew] at z)))
    all_goals (go_wp2_with fail; go_meet; (case rel => exact ⟨_, rfl, (by first | (simp [go_sem]; done) | (simp [*]; done) | simp [go_sem, *]), (by first | (simp [go_sem]; done) | (simp [*]; done) | simp [go_sem, *]), (by first | omega | (simp; done) | exact Below.size (B := w2.heap.size) (by repeat (first | exact Below.refl _ _ | assumption | refine Below.drew ?_ | refine bl_drewN ?_ _ | refine bl_alloc ?_ | refine bl_next ?_ (by assumption) | refine bl_set ?_ (by first | omega | (simp; done) | (simp; omega))))), (by repeat (first | exact Below.refl _ _ | assumption | refine Below.drew ?_ | refine bl_drewN ?_ _ | refine bl_alloc ?_ | refine bl_next ?_ (by assumption) | refine bl_set ?_ (by first | omega | (simp; done) | (simp; omega) | exact Below.size (B := w2.heap.size) (by repeat (first | exact Below.refl _ _ | assumption | refine Below.drew ?_ | refine bl_drewN ?_ _ | refine bl_alloc ?_ | refine bl_next ?_ (by assumption) | refine bl_set ?_ (by first | omega | (simp; done) | (simp; omega)))))))⟩))
  case rest =>
    obtain ⟨m5, rfl, e1, e2, le5, hb3⟩ := hcut
    obtain ⟨w3, rfl⟩ : ∃ v, v = wc := ⟨wc, rfl⟩
    have s3 := hb3.size
    have : w3.cell? ⟨w.heap.size, 0, none⟩ = some (.float .f64 X1) := bkeep hb3 (by assumption) (by first | omega | (simp; done) | (simp; omega))
    have : w3.cell? ⟨w.heap.size, 1, none⟩ = some (.float .f64 X2) := bkeep hb3 (by assumption) (by first | omega | (simp; done) | (simp; omega))
    have : w3.cell? ⟨w.heap.size + 1, 0, none⟩ = some (.float .f64 Y1) := bkeep hb3 (by assumption) (by first | omega | (simp; done) | (simp; omega))
    have : w3.cell? ⟨w.heap.size + 1, 1, none⟩ = some (.float .f64 Y2) := bkeep hb3 (by assumption) (by first | omega | (simp; done) | (simp; omega))
    have : w3.cell? ⟨w.heap.size + 1 + 1, 0, none⟩ = some (.float .f64 0) := bkeep hb3 (by assumption) (by first | omega | (simp; done) | (simp; omega))
    have : w3.frozen? ⟨w.heap.size + 1 + 1, 0, none⟩ = false := bfroz hb3 (by assumption) (by first | omega | (simp; done) | (simp; omega))
    have : w3.cell? ⟨w.heap.size + 1 + 1, 1, none⟩ = some (.float .f64 0) := bkeep hb3 (by assumption) (by first | omega | (simp; done) | (simp; omega))
    have : w3.frozen? ⟨w.heap.size + 1 + 1, 1, none⟩ = false := bfroz hb3 (by assumption) (by first | omega | (simp; done) | (simp; omega))
    go_wp2_with fail
    go_cut [6] (fun s5 wx => ∃ b : Nat, s5 = .pointer (some ⟨b, 0, none⟩) ∧ wx.cell? ⟨b, 0, none⟩ = some (.float .f64 l2) ∧ wx.cell? ⟨b, 1, none⟩ = some (.float .f64 h2) ∧ w3.heap.size ≤ b ∧ Below w3.heap.size w3 wx)
    case first =>
      go_region_held3 (fun w' => w'.cell? ⟨w.heap.size, 0, none⟩ = some (.float .f64 X1) ∧ w'.cell? ⟨w.heap.size, 1, none⟩ = some (.float .f64 X2) ∧ w'.cell? ⟨w.heap.size + 1, 0, none⟩ = some (.float .f64 Y1) ∧ w'.cell? ⟨w.heap.size + 1, 1, none⟩ = some (.float .f64 Y2)) (((try dsimp only); (repeat' apply And.intro) <;> first | exact bkeep (W := w3) (n := w3.heap.size) (by repeat (first | exact Below.refl _ _ | assumption | refine Below.drew ?_ | refine bl_drewN ?_ _ | refine bl_alloc ?_ | refine bl_next ?_ (by assumption) | refine bl_set ?_ (by first | omega | (simp; done) | (simp; omega) | exact Below.size (B := w3.heap.size) (by repeat (first | exact Below.refl _ _ | assumption | refine Below.drew ?_ | refine bl_drewN ?_ _ | refine bl_alloc ?_ | refine bl_next ?_ (by assumption) | refine bl_set ?_ (by first | omega | (simp; done) | (simp; omega))))))) (by assumption) (by first | omega | (simp; done) | (simp; omega)))) (first | (go_at_call 149; with_reducible refine (k3 _).mono ?_; rintro e w' ⟨rfl, hb⟩; (try have z := bnew hb); (try have z := bnewD hb); (try have z := bold hb z); (try simp only [World.size_drew] at z)) | (go_at_call 149; with_reducible refine (k4 _).mono ?_; rintro e w' ⟨rfl, hb⟩; (try have z := bnew hb); (try have z := bnewD hb); (try have z := bold hb z); (try simp only [World.size_drew] at z)) | (go_at_call 148; with_reducible refine (v2 _).mono ?_; rintro e w' ⟨rfl, hb⟩; (try have z := bnew hb); (try have z := bnewD hb); (try have z := bold hb z); (try simp only [World.size_drew] at z)))
      all_goals (go_wp2_with fail; go_meet; (case rel => exact ⟨_, rfl, (by first | (simp [go_sem]; done) | (simp [*]; done) | simp [go_sem, *]), (by first | (simp [go_sem]; done) | (simp [*]; done) | simp [go_sem, *]), (by first | omega | (simp; done) | exact Below.size (B := w3.heap.size) (by repeat (first | exact Below.refl _ _ | assumption | refine Below.drew ?_ | refine bl_drewN ?_ _ | refine bl_alloc ?_ | refine bl_next ?_ (by assumption) | refine bl_set ?_ (by first | omega | (simp; done) | (simp; omega))))), (by repeat (first | exact Below.refl _ _ | assumption | refine Below.drew ?_ | refine bl_drewN ?_ _ | refine bl_alloc ?_ | refine bl_next ?_ (by assumption) | refine bl_set ?_ (by first | omega | (simp; done) | (simp; omega) | exact Below.size (B := w3.heap.size) (by repeat (first | exact Below.refl _ _ | assumption | refine Below.drew ?_ | refine bl_drewN ?_ _ | refine bl_alloc ?_ | refine bl_next ?_ (by assumption) | refine bl_set ?_ (by first | omega | (simp; done) | (simp; omega)))))))⟩))
    case rest =>
      obtain ⟨m6, rfl, e3, e4, le6, hb4⟩ := hcut
      obtain ⟨w4, rfl⟩ : ∃ v, v = wc := ⟨wc, rfl⟩
      have s4 := hb4.size
      have : w4.cell? ⟨w.heap.size, 0, none⟩ = some (.float .f64 X1) := bkeep hb4 (by assumption) (by first | omega | (simp; done) | (simp; omega))
      have : w4.cell? ⟨w.heap.size, 1, none⟩ = some (.float .f64 X2) := bkeep hb4 (by assumption) (by first | omega | (simp; done) | (simp; omega))
      have : w4.cell? ⟨w.heap.size + 1, 0, none⟩ = some (.float .f64 Y1) := bkeep hb4 (by assumption) (by first | omega | (simp; done) | (simp; omega))
      have : w4.cell? ⟨w.heap.size + 1, 1, none⟩ = some (.float .f64 Y2) := bkeep hb4 (by assumption) (by first | omega | (simp; done) | (simp; omega))
      have : w4.cell? ⟨w.heap.size + 1 + 1, 0, none⟩ = some (.float .f64 0) := bkeep hb4 (by assumption) (by first | omega | (simp; done) | (simp; omega))
      have : w4.frozen? ⟨w.heap.size + 1 + 1, 0, none⟩ = false := bfroz hb4 (by assumption) (by first | omega | (simp; done) | (simp; omega))
      have : w4.cell? ⟨w.heap.size + 1 + 1, 1, none⟩ = some (.float .f64 0) := bkeep hb4 (by assumption) (by first | omega | (simp; done) | (simp; omega))
      have : w4.frozen? ⟨w.heap.size + 1 + 1, 1, none⟩ = false := bfroz hb4 (by assumption) (by first | omega | (simp; done) | (simp; omega))
      replace e1 := bkeep2 hb4 e1
      replace e2 := bkeep2 hb4 e2
      go_wp2_with fail
      go_at_call 148
      refine (v3 _).mono ?_
      rintro e w5 ⟨rfl, hb5⟩
      have s5 := hb5.size
      have : w5.cell? ⟨w.heap.size + 1 + 1, 0, none⟩ = some (.float .f64 0) := bkeep hb5 (by assumption) (by first | omega | (simp; done) | (simp; omega))
      have : w5.frozen? ⟨w.heap.size + 1 + 1, 0, none⟩ = false := bfroz hb5 (by assumption) (by first | omega | (simp; done) | (simp; omega))
      have : w5.cell? ⟨w.heap.size + 1 + 1, 1, none⟩ = some (.float .f64 0) := bkeep hb5 (by assumption) (by first | omega | (simp; done) | (simp; omega))
      have : w5.frozen? ⟨w.heap.size + 1 + 1, 1, none⟩ = false := bfroz hb5 (by assumption) (by first | omega | (simp; done) | (simp; omega))
      go_wp2_with fail
      refine bodyPost_ret (v := .agg #[.float .f64 l, .float .f64 h]) (by simp [results, Tryz.results120, go_sem, *]) rfl ⟨rfl, ?_⟩
      repeat (first | exact Below.refl _ _ | assumption | refine Below.drew ?_ | refine bl_drewN ?_ _ | refine Below.setCell ?_ (by first | omega | (simp; done) | (simp; omega)) _ | refine Below.alloc ?_ (by first | omega | (simp; done) | (simp; omega)) _ | refine bl_next ?_ (by assumption) | refine bl_trans ?_ (by assumption) (by first | omega | (simp; done) | (simp; omega)))

end Go.Proofs.YtacnclofbnafiabGreatDoor
