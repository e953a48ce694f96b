import Derived.Test.YtacnclofbnafiabGreatDoorK9
import Derived.Test.YtacnclofbnafiabGreatDoorKA
import Derived.Test.YtacnclofbnafiabGreatDoorBB
import Derived.Deep.DeepCutAuto
namespace Go.Proofs.YtacnclofbnafiabGreatDoor
open Go.RowKit Fl

theorem rempty : ∀ w, Calls Tryz.prog 106 #[] w fun e w' => e = .returned (.agg #[.float .f64 (B INF), .float .f64 (B (-INF))]) ∧ Below w.heap.size w w' := rempty_w _ _ infp infn
theorem rnone_no {X1 X2 : Nat} {k l : Int} (h : Iv X1 X2 k l) : ∀ w, Calls Tryz.prog 105 #[.agg #[.float .f64 X1, .float .f64 X2]] w fun e w' => e = .returned (.bool false) ∧ Below w.heap.size w w' := by
  have hI := INF_pos
  have h1 : (Ieee.double.order X1 X1 != some .eq) = false := by rw [h.x.self]; rfl
  have h2 : (Ieee.double.order X2 X2 != some .eq) = false := by rw [h.y.self]; rfl
  have e1 := h.le
  have e2 := h.lo
  have e3 := h.hi
  have h3 : (Ieee.double.order X1 X2 == some .gt) = false := by
    rw [h.x.order h.y]
    have : compare k l ≠ .gt := by rw [Ne, Int.compare_eq_gt]; omega
    simp [this]
  have h4 : (Ieee.double.order X1 9218868437227405311 == some .gt) = false := by
    rw [h.x.order Key.max]
    have : compare k (INF - 1) ≠ .gt := by rw [Ne, Int.compare_eq_gt]; omega
    simp [this]
  have h5 : (Ieee.double.order X2 18442240474082181119 == some .lt) = false := by
    rw [h.y.order Key.nmax]
    have : compare l (1 - INF) ≠ .lt := by rw [Ne, Int.compare_eq_lt]; omega
    simp [this]
  exact rnone5_w X1 X2 h1 h2 h3 h4 h5
theorem rnone_yes {X1 X2 : Nat} (h : NoIv X1 X2) (hX1 : X1 < 18446744073709551616) (hX2 : X2 < 18446744073709551616) : ∀ w, Calls Tryz.prog 105 #[.agg #[.float .f64 X1, .float .f64 X2]] w fun e w' => e = .returned (.bool true) ∧ Below w.heap.size w w' := by
  rcases h.cases hX1 hX2 with g | ⟨k, g1, g⟩ | ⟨k, l, g1, g2, g⟩
  · exact rnone0_w X1 X2 (by rw [g.l]; rfl)
  · exact rnone1_w X1 X2 (by rw [g1.self]; rfl) (by rw [g.l]; rfl)
  · have h1 : (Ieee.double.order X1 X1 != some .eq) = false := by rw [g1.self]; rfl
    have h2 : (Ieee.double.order X2 X2 != some .eq) = false := by rw [g2.self]; rfl
    rcases g with g | ⟨g, g3⟩ | ⟨g, g3, g4⟩
    · exact rnone2_w X1 X2 h1 h2 (by rw [g1.ogt g2 g]; rfl)
    · have h3 : (Ieee.double.order X1 X2 == some .gt) = false := by
        rw [g1.order g2]
        have : compare k l ≠ .gt := by rw [Ne, Int.compare_eq_gt]; omega
        simp [this]
      exact rnone3_w X1 X2 h1 h2 h3 (by rw [g1.ogt Key.max (by omega)]; rfl)
    · have h3 : (Ieee.double.order X1 X2 == some .gt) = false := by
        rw [g1.order g2]
        have : compare k l ≠ .gt := by rw [Ne, Int.compare_eq_gt]; omega
        simp [this]
      have h4 : (Ieee.double.order X1 9218868437227405311 == some .gt) = false := by
        rw [g1.order Key.max]
        have : compare k (INF - 1) ≠ .gt := by rw [Ne, Int.compare_eq_gt]; omega
        simp [this]
      exact rnone4_w X1 X2 h1 h2 h3 h4 (by rw [g2.olt Key.nmax (by omega)]; rfl)
theorem rbare_no {a b c d : Nat} {k l m n : Int} (h : Iv a b k l) (h' : Iv c d m n) : ∀ w, Calls Tryz.prog 74 #[.agg #[.float .f64 a, .float .f64 b, .float .f64 c, .float .f64 d]] w fun e w' => e = .returned (.bool false) ∧ Below w.heap.size w w' :=
  rbare_ff_w _ _ _ _ (rnone_no h) (rnone_no h')
theorem rbare_yes {a b c d : Nat} (ha : a < 18446744073709551616) (hb : b < 18446744073709551616) (hc : c < 18446744073709551616) (hd : d < 18446744073709551616) (h : NoIv a b ∨ NoIv c d) : ∀ w, Calls Tryz.prog 74 #[.agg #[.float .f64 a, .float .f64 b, .float .f64 c, .float .f64 d]] w fun e w' => e = .returned (.bool true) ∧ Below w.heap.size w w' := by
  rcases Iv.or a b with ⟨k, l, g⟩ | g <;> rcases Iv.or c d with ⟨m, n, g'⟩ | g'
  · rcases h with h | h
    · exact absurd g (h k l)
    · exact absurd g' (h m n)
  · exact rbare_ft_w _ _ _ _ (rnone_no g) (rnone_yes g' hc hd)
  · exact rbare_tf_w _ _ _ _ (rnone_yes g ha hb) (rnone_no g')
  · exact rbare_tt_w _ _ _ _ (rnone_yes g ha hb) (rnone_yes g' hc hd)

end Go.Proofs.YtacnclofbnafiabGreatDoor

namespace Go.Proofs.YtacnclofbnafiabGreatDoor
open Go.RowKit Fl

end Go.Proofs.YtacnclofbnafiabGreatDoor

namespace Go.Proofs.YtacnclofbnafiabGreatDoor
open Go.RowKit Fl


def mn (f : Nat → Int) : Nat → Int
  | 0 => f 0
  | 1 => f 0
  | k + 2 => min (mn f (k + 1)) (f (k + 1))
def mx (f : Nat → Int) : Nat → Int
  | 0 => f 0
  | 1 => f 0
  | k + 2 => max (mx f (k + 1)) (f (k + 1))
theorem mn_pl {f : Nat → Int} (h : ∀ j, Pl (f j)) : ∀ k, Pl (mn f k)
  | 0 => h 0
  | 1 => h 0
  | k + 2 => by
    have h1 := mn_pl h (k + 1)
    have h2 := h (k + 1)
    show Pl (min (mn f (k + 1)) (f (k + 1)))
    generalize mn f (k + 1) = q at *
    unfold Pl at *; omega
theorem mx_pl {f : Nat → Int} (h : ∀ j, Pl (f j)) : ∀ k, Pl (mx f k)
  | 0 => h 0
  | 1 => h 0
  | k + 2 => by
    have h1 := mx_pl h (k + 1)
    have h2 := h (k + 1)
    show Pl (max (mx f (k + 1)) (f (k + 1)))
    generalize mx f (k + 1) = q at *
    unfold Pl at *; omega
theorem mn_next (f : Nat → Int) (k : Nat) (h : 1 ≤ k) : mn f (k + 1) = min (mn f k) (f k) := by
  obtain ⟨j, rfl⟩ : ∃ j, k = j + 1 := ⟨k - 1, by omega⟩
  rfl
theorem mx_next (f : Nat → Int) (k : Nat) (h : 1 ≤ k) : mx f (k + 1) = max (mx f k) (f k) := by
  obtain ⟨j, rfl⟩ : ∃ j, k = j + 1 := ⟨k - 1, by omega⟩
  rfl
theorem least_w (b : Nat) (f : Nat → Int) (hf : ∀ j, Pl (f j)) (w : World) (hc : ∀ j, j < 4 → w.cell? ⟨b, j, none⟩ = some (.float .f64 (B (f j)))) :
    Calls Tryz.prog 109 #[.slice (some ⟨b, 0, none⟩) 4 4] w fun e w' => e = .returned (.float .f64 (B (mn f 4))) ∧ Below w.heap.size w w' := by
  have e0 := hc 0 (by omega)
  have HC : Hid (∀ j, j < 4 → w.cell? ⟨b, j, none⟩ = some (.float .f64 (B (f j)))) := hc
  clear hc
  go_enter Tryz.func109, Tryz.ntmps109
  go_wp2_with fail
  go_loop [3, 4] (fun v i => ∃ k : Nat, 1 ≤ k ∧ k ≤ 4 ∧ i = .int .i64 k ∧ v = .float .f64 (B (mn f k))) (fun _ i => 4 - (intOf i).toNat)
  case atStart => exact ⟨1, by omega, by omega, rfl, rfl⟩
  case round =>
    obtain ⟨k, hk1, hk, rfl, rfl⟩ := hrel
    clear e0
    by_cases hlt : k < 4
    · have e1 := HC.out k hlt
      have hm := mn_next f k hk1
      have ko := (Key.at (hf k)).order (Key.at (mn_pl hf k))
      rcases Int.lt_or_le (f k) (mn f k) with g | g
      · rw [Int.compare_eq_lt.2 g] at ko
        have hm' : mn f (k + 1) = f k := by rw [hm]; omega
        clear hm
        go_wp2_with fail
        go_round
        case rel => exact ⟨k + 1, by omega, by omega, by go_num, by rw [hm']⟩
        case measure => simp [intOf]; omega
      · have ko' : (Ieee.double.order (B (f k)) (B (mn f k)) == some .lt) = false := by
          rw [ko]
          have : compare (f k) (mn f k) ≠ .lt := by rw [Ne, Int.compare_eq_lt]; omega
          simp [this]
        have hm' : mn f (k + 1) = mn f k := by rw [hm]; omega
        clear hm ko
        go_wp2_with fail
        go_round
        case rel => exact ⟨k + 1, by omega, by omega, by go_num, by rw [hm']⟩
        case measure => simp [intOf]; omega
    · have : k = 4 := by omega
      subst this
      go_wp2_with fail
      go_ret
      exact ⟨rfl, Below.refl _ _⟩
theorem greatest_w (b : Nat) (f : Nat → Int) (hf : ∀ j, Pl (f j)) (w : World) (hc : ∀ j, j < 4 → w.cell? ⟨b, j, none⟩ = some (.float .f64 (B (f j)))) :
    Calls Tryz.prog 110 #[.slice (some ⟨b, 0, none⟩) 4 4] w fun e w' => e = .returned (.float .f64 (B (mx f 4))) ∧ Below w.heap.size w w' := by
  have e0 := hc 0 (by omega)
  have HC : Hid (∀ j, j < 4 → w.cell? ⟨b, j, none⟩ = some (.float .f64 (B (f j)))) := hc
  clear hc
  go_enter Tryz.func110, Tryz.ntmps110
  go_wp2_with fail
  go_loop [3, 4] (fun v i => ∃ k : Nat, 1 ≤ k ∧ k ≤ 4 ∧ i = .int .i64 k ∧ v = .float .f64 (B (mx f k))) (fun _ i => 4 - (intOf i).toNat)
  case atStart => exact ⟨1, by omega, by omega, rfl, rfl⟩
  case round =>
    obtain ⟨k, hk1, hk, rfl, rfl⟩ := hrel
    clear e0
    by_cases hlt : k < 4
    · have e1 := HC.out k hlt
      have hm := mx_next f k hk1
      have ko := (Key.at (hf k)).order (Key.at (mx_pl hf k))
      rcases Int.lt_or_le (mx f k) (f k) with g | g
      · rw [Int.compare_eq_gt.2 g] at ko
        have hm' : mx f (k + 1) = f k := by rw [hm]; omega
        clear hm
        go_wp2_with fail
        go_round
        case rel => exact ⟨k + 1, by omega, by omega, by go_num, by rw [hm']⟩
        case measure => simp [intOf]; omega
      · have ko' : (Ieee.double.order (B (f k)) (B (mx f k)) == some .gt) = false := by
          rw [ko]
          have : compare (f k) (mx f k) ≠ .gt := by rw [Ne, Int.compare_eq_gt]; omega
          simp [this]
        have hm' : mx f (k + 1) = mx f k := by rw [hm]; omega
        clear hm ko
        go_wp2_with fail
        go_round
        case rel => exact ⟨k + 1, by omega, by omega, by go_num, by rw [hm']⟩
        case measure => simp [intOf]; omega
    · have : k = 4 := by omega
      subst this
      go_wp2_with fail
      go_ret
      exact ⟨rfl, Below.refl _ _⟩

def four4 (a b c d : Nat) (k : Nat) : Nat := if k = 0 then a else if k = 1 then b else if k = 2 then c else d

theorem cells_four4 (w : World) (a b c d : Nat) (t : TypeId) (k : Nat) (hk : k < 4) :
    (w.alloc (.cells #[.float .f64 a, .float .f64 b, .float .f64 c, .float .f64 d] t)).cell? ⟨w.heap.size, k, none⟩ = some (.float .f64 (four4 a b c d k)) := by
  have : k = 0 ∨ k = 1 ∨ k = 2 ∨ k = 3 := by omega
  have e : ∀ o : Obj, (w.alloc o).heap[w.heap.size]? = some o := fun o => by
    show (w.heap.push o)[w.heap.size]? = some o
    simp
  unfold World.cell?
  rw [e]
  rcases this with rfl | rfl | rfl | rfl <;> rfl

/-- The four4 lists of Product, kl and kh of whose cells are written. -/
structure PF (w2 : World) (Xs Ys : Nat → Nat) (dn up : Nat → Int) (kl kh : Nat) (v : World) : Prop where
  bl : Below w2.heap.size w2 v
  sz : w2.heap.size + 1 + 1 + 1 < v.heap.size
  xs : ∀ j, j < 4 → v.cell? ⟨w2.heap.size, j, none⟩ = some (.float .f64 (Xs j))
  ys : ∀ j, j < 4 → v.cell? ⟨w2.heap.size + 1, j, none⟩ = some (.float .f64 (Ys j))
  lo : ∀ j, j < 4 → v.cell? ⟨w2.heap.size + 1 + 1, j, none⟩ = some (.float .f64 (if j < kl then B (dn j) else 0))
  hi : ∀ j, j < 4 → v.cell? ⟨w2.heap.size + 1 + 1 + 1, j, none⟩ = some (.float .f64 (if j < kh then B (up j) else 0))
  fl : ∀ j, j < 4 → v.frozen? ⟨w2.heap.size + 1 + 1, j, none⟩ = false
  fh : ∀ j, j < 4 → v.frozen? ⟨w2.heap.size + 1 + 1 + 1, j, none⟩ = false
theorem PF.next {w2 v v' : World} {Xs Ys : Nat → Nat} {dn up : Nat → Int} {kl kh : Nat} (h : PF w2 Xs Ys dn up kl kh v) (hb : Below v.heap.size v v') : PF w2 Xs Ys dn up kl kh v' :=
  ⟨bl_next h.bl hb, Nat.lt_of_lt_of_le h.sz hb.size, fun j hj => bkeep2 hb (h.xs j hj), fun j hj => bkeep2 hb (h.ys j hj), fun j hj => bkeep2 hb (h.lo j hj), fun j hj => bkeep2 hb (h.hi j hj),
   fun j hj => bfroz2 hb (h.lo j hj) (h.fl j hj), fun j hj => bfroz2 hb (h.hi j hj) (h.fh j hj)⟩
theorem bl_undrew {v v' : World} (h : Below v.drew.heap.size v.drew v') : Below v.heap.size v v' := ⟨h.os, h.tape, h.output, h.size, h.block⟩
theorem set_same {w : World} {p : Addr} {u v : Value} (h : w.cell? p = some u) : (w.setCell p v).cell? p = some v := World.cell?_setCell_same w p v h
theorem PF.lo_next {w2 v v' : World} {Xs Ys : Nat → Nat} {dn up : Nat → Int} {k : Nat} (h : PF w2 Xs Ys dn up k k v) (hb : Below v.heap.size v v') (hk : k < 4) :
    PF w2 Xs Ys dn up (k + 1) k (v'.setCell ⟨w2.heap.size + 1 + 1, k, none⟩ (.float .f64 (B (dn k)))) := by
  have h' := h.next hb
  refine ⟨bl_set h'.bl (by first | (simp; done) | (simp; omega)), by simpa using h'.sz, fun j hj => ?_, fun j hj => ?_, fun j hj => ?_, fun j hj => ?_, fun j hj => ?_, fun j hj => ?_⟩
  · rw [set_other (by first | (simp; done) | (simp; omega))]; exact h'.xs j hj
  · rw [set_other (by first | (simp; done) | (simp; omega))]; exact h'.ys j hj
  · by_cases e : j = k
    · subst e
      rw [set_same (h'.lo j hj), if_pos (by omega)]
    · have h1 := h'.lo j hj
      have h2 := World.cell?_setCell_other (w := v') (a := ⟨w2.heap.size + 1 + 1, k, none⟩) (b := ⟨w2.heap.size + 1 + 1, j, none⟩) (v := .float .f64 (B (dn k))) (fun h => e (by injection h with _ h1 _; exact h1.symm))
      rw [h2, h1]
      by_cases g : j < k
      · rw [if_pos g, if_pos (by omega)]
      · rw [if_neg g, if_neg (by omega)]
  · rw [set_other (by first | (simp; done) | (simp; omega))]; exact h'.hi j hj
  · rw [World.frozen?_setCell]; exact h'.fl j hj
  · rw [World.frozen?_setCell]; exact h'.fh j hj
theorem PF.hi_next {w2 v v' : World} {Xs Ys : Nat → Nat} {dn up : Nat → Int} {k : Nat} (h : PF w2 Xs Ys dn up (k + 1) k v) (hb : Below v.heap.size v v') (hk : k < 4) :
    PF w2 Xs Ys dn up (k + 1) (k + 1) (v'.setCell ⟨w2.heap.size + 1 + 1 + 1, k, none⟩ (.float .f64 (B (up k)))) := by
  have h' := h.next hb
  refine ⟨bl_set h'.bl (by first | (simp; done) | (simp; omega)), by simpa using h'.sz, fun j hj => ?_, fun j hj => ?_, fun j hj => ?_, fun j hj => ?_, fun j hj => ?_, fun j hj => ?_⟩
  · rw [set_other (by first | (simp; done) | (simp; omega))]; exact h'.xs j hj
  · rw [set_other (by first | (simp; done) | (simp; omega))]; exact h'.ys j hj
  · rw [set_other (by first | (simp; done) | (simp; omega))]; exact h'.lo j hj
  · by_cases e : j = k
    · subst e
      rw [set_same (h'.hi j hj), if_pos (by omega)]
    · have h1 := h'.hi j hj
      have h2 := World.cell?_setCell_other (w := v') (a := ⟨w2.heap.size + 1 + 1 + 1, k, none⟩) (b := ⟨w2.heap.size + 1 + 1 + 1, j, none⟩) (v := .float .f64 (B (up k))) (fun h => e (by injection h with _ h1 _; exact h1.symm))
      rw [h2, h1]
      by_cases g : j < k
      · rw [if_pos g, if_pos (by omega)]
      · rw [if_neg g, if_neg (by omega)]
  · rw [World.frozen?_setCell]; exact h'.fl j hj
  · rw [World.frozen?_setCell]; exact h'.fh j hj

theorem info22 : (Tryz.prog.info? 35).map (fun i => (i.zero, i.size, i.bytes)) = some (some (.float .f64 0), 1, 8) := by kernel_rfl
theorem made4 (u : World) : (Instr.makeSlice 22 (.int .i64 4) (.int .i64 4)).run Tryz.prog u =
    .ok (.slice (some ⟨u.heap.size, 0, none⟩) 4 4) (u.alloc (.cells #[.float .f64 0, .float .f64 0, .float .f64 0, .float .f64 0] 35)) := by
  obtain ⟨i0, hi, hz0, hz1, hz2⟩ := info_parts info22
  have h := run_make (P := Tryz.prog) u 22 35 i0 (.float .f64 0) Tryz.underlying22 hi hz0 .i64 .i64 4 4 (by omega) (Int.le_refl _) (by rw [hz2]; omega) (by omega)
  have e : madeCells #[.float .f64 0] 4 = #[.float .f64 0, .float .f64 0, .float .f64 0, .float .f64 0] := by
    apply Array.ext
    · simp [madeCells]
    · intro i h1 h2
      have : i = 0 ∨ i = 1 ∨ i = 2 ∨ i = 3 := by simp at h2; omega
      rcases this with rfl | rfl | rfl | rfl <;> simp [madeCells]
  simpa [hz1, Value.cells, e] using h
theorem four4_zero (j : Nat) : four4 0 0 0 0 j = 0 := by unfold four4; split <;> (try split) <;> (try split) <;> rfl

set_option maxHeartbeats 4000000 in
theorem rprod_ok_w (X1 X2 Y1 Y2 c d : Nat) (dn up : Nat → Int) (hdn : ∀ j, Pl (dn j)) (hup : ∀ j, Pl (up j))
    (nx : ∀ w, Calls Tryz.prog 105 #[.agg #[.float .f64 X1, .float .f64 X2]] w fun e w' => e = .returned (.bool false) ∧ Below w.heap.size w w')
    (ny : ∀ w, Calls Tryz.prog 105 #[.agg #[.float .f64 Y1, .float .f64 Y2]] w fun e w' => e = .returned (.bool false) ∧ Below w.heap.size w w')
    (m1 : ∀ j, j < 4 → ∀ w, Calls Tryz.prog 108 #[.float .f64 (four4 X1 X1 X2 X2 j), .float .f64 (four4 Y1 Y2 Y1 Y2 j), .bool true] w fun e w' => e = .returned (.float .f64 (B (dn j))) ∧ Below w.heap.size w w')
    (m2 : ∀ j, j < 4 → ∀ w, Calls Tryz.prog 108 #[.float .f64 (four4 X1 X1 X2 X2 j), .float .f64 (four4 Y1 Y2 Y1 Y2 j), .bool false] w fun e w' => e = .returned (.float .f64 (B (up j))) ∧ Below w.heap.size w w')
    (p : ∀ w, Calls Tryz.prog 79 #[.float .f64 (B (mn dn 4)), .float .f64 (B (mx up 4))] w fun e w' => e = .returned (.agg #[.float .f64 c, .float .f64 d]) ∧ Below w.heap.size w w') (w : World) :
    Calls Tryz.prog 78 #[.agg #[.float .f64 X1, .float .f64 X2], .agg #[.float .f64 Y1, .float .f64 Y2]] w fun e w' => e = .returned (.agg #[.float .f64 c, .float .f64 d]) ∧ Below w.heap.size w w' := by
  have mk4 := made4
  go_enter Tryz.func78, Tryz.ntmps78
  go_wp2_with fail
  go_at_call 105
  refine (nx _).mono ?_
  rintro e w1 ⟨rfl, hb1⟩
  have s1 := hb1.size
  try simp at s1
  have l1_0 : w.heap.size < w1.heap.size := (by omega)
  have c1_1_0 : w1.cell? ⟨w.heap.size, 0, none⟩ = some (.float .f64 X1) := bkeep hb1 (by first | assumption | (simp [go_sem]; done) | (simp [*]; done) | (simp [go_sem, *]; done) | exact bkeep (bl_alloc (Below.refl _ _)) (by assumption) (by first | omega | (simp; done) | (simp; omega))) (by first | omega | (simp; done) | (simp; omega))
  have c1_2_1 : w1.cell? ⟨w.heap.size, 1, none⟩ = some (.float .f64 X2) := bkeep hb1 (by first | assumption | (simp [go_sem]; done) | (simp [*]; done) | (simp [go_sem, *]; done) | exact bkeep (bl_alloc (Below.refl _ _)) (by assumption) (by first | omega | (simp; done) | (simp; omega))) (by first | omega | (simp; done) | (simp; omega))
  have l1_3 : w.heap.size + 1 < w1.heap.size := (by omega)
  have c1_4_0 : w1.cell? ⟨w.heap.size + 1, 0, none⟩ = some (.float .f64 Y1) := bkeep hb1 (by first | assumption | (simp [go_sem]; done) | (simp [*]; done) | (simp [go_sem, *]; done) | exact bkeep (bl_alloc (Below.refl _ _)) (by assumption) (by first | omega | (simp; done) | (simp; omega))) (by first | omega | (simp; done) | (simp; omega))
  have c1_5_1 : w1.cell? ⟨w.heap.size + 1, 1, none⟩ = some (.float .f64 Y2) := bkeep hb1 (by first | assumption | (simp [go_sem]; done) | (simp [*]; done) | (simp [go_sem, *]; done) | exact bkeep (bl_alloc (Below.refl _ _)) (by assumption) (by first | omega | (simp; done) | (simp; omega))) (by first | omega | (simp; done) | (simp; omega))
  have l1_6 : w.heap.size + 1 + 1 < w1.heap.size := (by omega)
  have c1_7_0 : w1.cell? ⟨w.heap.size + 1 + 1, 0, none⟩ = some (.float .f64 0) := bkeep hb1 (by first | assumption | (simp [go_sem]; done) | (simp [*]; done) | (simp [go_sem, *]; done) | exact bkeep (bl_alloc (Below.refl _ _)) (by assumption) (by first | omega | (simp; done) | (simp; omega))) (by first | omega | (simp; done) | (simp; omega))
  have f1_7_0 : w1.frozen? ⟨w.heap.size + 1 + 1, 0, none⟩ = false := bfroz hb1 (by first | assumption | (simp [go_sem]; done) | (simp [*]; done) | (simp [go_sem, *]; done) | exact bfroz (bl_alloc (Below.refl _ _)) (by assumption) (by first | omega | (simp; done) | (simp; omega))) (by first | omega | (simp; done) | (simp; omega))
  have c1_8_1 : w1.cell? ⟨w.heap.size + 1 + 1, 1, none⟩ = some (.float .f64 0) := bkeep hb1 (by first | assumption | (simp [go_sem]; done) | (simp [*]; done) | (simp [go_sem, *]; done) | exact bkeep (bl_alloc (Below.refl _ _)) (by assumption) (by first | omega | (simp; done) | (simp; omega))) (by first | omega | (simp; done) | (simp; omega))
  have f1_8_1 : w1.frozen? ⟨w.heap.size + 1 + 1, 1, none⟩ = false := bfroz hb1 (by first | assumption | (simp [go_sem]; done) | (simp [*]; done) | (simp [go_sem, *]; done) | exact bfroz (bl_alloc (Below.refl _ _)) (by assumption) (by first | omega | (simp; done) | (simp; omega))) (by first | omega | (simp; done) | (simp; omega))
  go_wp2_with fail
  go_at_call 105
  refine (ny _).mono ?_
  rintro e w2 ⟨rfl, hb2⟩
  have s2 := hb2.size
  try simp at s2
  have l2_0 : w.heap.size < w2.heap.size := (by omega)
  have c2_1_0 : w2.cell? ⟨w.heap.size, 0, none⟩ = some (.float .f64 X1) := bkeep hb2 (by first | assumption | (simp [go_sem]; done) | (simp [*]; done) | (simp [go_sem, *]; done) | exact bkeep (bl_alloc (Below.refl _ _)) (by assumption) (by first | omega | (simp; done) | (simp; omega))) (by first | omega | (simp; done) | (simp; omega))
  have c2_2_1 : w2.cell? ⟨w.heap.size, 1, none⟩ = some (.float .f64 X2) := bkeep hb2 (by first | assumption | (simp [go_sem]; done) | (simp [*]; done) | (simp [go_sem, *]; done) | exact bkeep (bl_alloc (Below.refl _ _)) (by assumption) (by first | omega | (simp; done) | (simp; omega))) (by first | omega | (simp; done) | (simp; omega))
  have l2_3 : w.heap.size + 1 < w2.heap.size := (by omega)
  have c2_4_0 : w2.cell? ⟨w.heap.size + 1, 0, none⟩ = some (.float .f64 Y1) := bkeep hb2 (by first | assumption | (simp [go_sem]; done) | (simp [*]; done) | (simp [go_sem, *]; done) | exact bkeep (bl_alloc (Below.refl _ _)) (by assumption) (by first | omega | (simp; done) | (simp; omega))) (by first | omega | (simp; done) | (simp; omega))
  have c2_5_1 : w2.cell? ⟨w.heap.size + 1, 1, none⟩ = some (.float .f64 Y2) := bkeep hb2 (by first | assumption | (simp [go_sem]; done) | (simp [*]; done) | (simp [go_sem, *]; done) | exact bkeep (bl_alloc (Below.refl _ _)) (by assumption) (by first | omega | (simp; done) | (simp; omega))) (by first | omega | (simp; done) | (simp; omega))
  have l2_6 : w.heap.size + 1 + 1 < w2.heap.size := (by omega)
  have c2_7_0 : w2.cell? ⟨w.heap.size + 1 + 1, 0, none⟩ = some (.float .f64 0) := bkeep hb2 (by first | assumption | (simp [go_sem]; done) | (simp [*]; done) | (simp [go_sem, *]; done) | exact bkeep (bl_alloc (Below.refl _ _)) (by assumption) (by first | omega | (simp; done) | (simp; omega))) (by first | omega | (simp; done) | (simp; omega))
  have f2_7_0 : w2.frozen? ⟨w.heap.size + 1 + 1, 0, none⟩ = false := bfroz hb2 (by first | assumption | (simp [go_sem]; done) | (simp [*]; done) | (simp [go_sem, *]; done) | exact bfroz (bl_alloc (Below.refl _ _)) (by assumption) (by first | omega | (simp; done) | (simp; omega))) (by first | omega | (simp; done) | (simp; omega))
  have c2_8_1 : w2.cell? ⟨w.heap.size + 1 + 1, 1, none⟩ = some (.float .f64 0) := bkeep hb2 (by first | assumption | (simp [go_sem]; done) | (simp [*]; done) | (simp [go_sem, *]; done) | exact bkeep (bl_alloc (Below.refl _ _)) (by assumption) (by first | omega | (simp; done) | (simp; omega))) (by first | omega | (simp; done) | (simp; omega))
  have f2_8_1 : w2.frozen? ⟨w.heap.size + 1 + 1, 1, none⟩ = false := bfroz hb2 (by first | assumption | (simp [go_sem]; done) | (simp [*]; done) | (simp [go_sem, *]; done) | exact bfroz (bl_alloc (Below.refl _ _)) (by assumption) (by first | omega | (simp; done) | (simp; omega))) (by first | omega | (simp; done) | (simp; omega))
  clear l1_0 c1_1_0 c1_2_1 l1_3 c1_4_0 c1_5_1 l1_6 c1_7_0 f1_7_0 c1_8_1 f1_8_1
  go_wp2_with fail
  have q0 : ∀ j, j < 4 → ((((w2.alloc (.cells #[.float .f64 X1, .float .f64 X1, .float .f64 X2, .float .f64 X2] 35)).alloc (.cells #[.float .f64 Y1, .float .f64 Y2, .float .f64 Y1, .float .f64 Y2] 35)).alloc (.cells #[.float .f64 0, .float .f64 0, .float .f64 0, .float .f64 0] 35)).alloc (.cells #[.float .f64 0, .float .f64 0, .float .f64 0, .float .f64 0] 35)).cell? ⟨w2.heap.size, j, none⟩ = some (.float .f64 (four4 X1 X1 X2 X2 j)) := fun j hj => by
    have h1 := cells_four4 w2 X1 X1 X2 X2 35 j hj
    exact bkeep (n := w2.heap.size + 1) (by repeat (first | exact Below.refl _ _ | refine Below.alloc ?_ (by simp) _)) h1 (by simp)
  have q1 : ∀ j, j < 4 → ((((w2.alloc (.cells #[.float .f64 X1, .float .f64 X1, .float .f64 X2, .float .f64 X2] 35)).alloc (.cells #[.float .f64 Y1, .float .f64 Y2, .float .f64 Y1, .float .f64 Y2] 35)).alloc (.cells #[.float .f64 0, .float .f64 0, .float .f64 0, .float .f64 0] 35)).alloc (.cells #[.float .f64 0, .float .f64 0, .float .f64 0, .float .f64 0] 35)).cell? ⟨w2.heap.size + 1, j, none⟩ = some (.float .f64 (four4 Y1 Y2 Y1 Y2 j)) := fun j hj => by
    have h1 := cells_four4 (w2.alloc (.cells #[.float .f64 X1, .float .f64 X1, .float .f64 X2, .float .f64 X2] 35)) Y1 Y2 Y1 Y2 35 j hj
    have hs : (w2.alloc (.cells #[.float .f64 X1, .float .f64 X1, .float .f64 X2, .float .f64 X2] 35)).heap.size = w2.heap.size + 1 := by simp
    rw [hs] at h1
    exact bkeep (n := w2.heap.size + 1 + 1) (by repeat (first | exact Below.refl _ _ | refine Below.alloc ?_ (by simp) _)) h1 (by simp)
  have q2 : ∀ j, j < 4 → ((((w2.alloc (.cells #[.float .f64 X1, .float .f64 X1, .float .f64 X2, .float .f64 X2] 35)).alloc (.cells #[.float .f64 Y1, .float .f64 Y2, .float .f64 Y1, .float .f64 Y2] 35)).alloc (.cells #[.float .f64 0, .float .f64 0, .float .f64 0, .float .f64 0] 35)).alloc (.cells #[.float .f64 0, .float .f64 0, .float .f64 0, .float .f64 0] 35)).cell? ⟨w2.heap.size + 1 + 1, j, none⟩ = some (.float .f64 (four4 0 0 0 0 j)) := fun j hj => by
    have h1 := cells_four4 ((w2.alloc (.cells #[.float .f64 X1, .float .f64 X1, .float .f64 X2, .float .f64 X2] 35)).alloc (.cells #[.float .f64 Y1, .float .f64 Y2, .float .f64 Y1, .float .f64 Y2] 35)) 0 0 0 0 35 j hj
    have hs : ((w2.alloc (.cells #[.float .f64 X1, .float .f64 X1, .float .f64 X2, .float .f64 X2] 35)).alloc (.cells #[.float .f64 Y1, .float .f64 Y2, .float .f64 Y1, .float .f64 Y2] 35)).heap.size = w2.heap.size + 1 + 1 := by simp
    rw [hs] at h1
    exact bkeep (n := w2.heap.size + 1 + 1 + 1) (by repeat (first | exact Below.refl _ _ | refine Below.alloc ?_ (by simp) _)) h1 (by simp)
  have q3 : ∀ j, j < 4 → ((((w2.alloc (.cells #[.float .f64 X1, .float .f64 X1, .float .f64 X2, .float .f64 X2] 35)).alloc (.cells #[.float .f64 Y1, .float .f64 Y2, .float .f64 Y1, .float .f64 Y2] 35)).alloc (.cells #[.float .f64 0, .float .f64 0, .float .f64 0, .float .f64 0] 35)).alloc (.cells #[.float .f64 0, .float .f64 0, .float .f64 0, .float .f64 0] 35)).cell? ⟨w2.heap.size + 1 + 1 + 1, j, none⟩ = some (.float .f64 (four4 0 0 0 0 j)) := fun j hj => by
    have h1 := cells_four4 (((w2.alloc (.cells #[.float .f64 X1, .float .f64 X1, .float .f64 X2, .float .f64 X2] 35)).alloc (.cells #[.float .f64 Y1, .float .f64 Y2, .float .f64 Y1, .float .f64 Y2] 35)).alloc (.cells #[.float .f64 0, .float .f64 0, .float .f64 0, .float .f64 0] 35)) 0 0 0 0 35 j hj
    have hs : (((w2.alloc (.cells #[.float .f64 X1, .float .f64 X1, .float .f64 X2, .float .f64 X2] 35)).alloc (.cells #[.float .f64 Y1, .float .f64 Y2, .float .f64 Y1, .float .f64 Y2] 35)).alloc (.cells #[.float .f64 0, .float .f64 0, .float .f64 0, .float .f64 0] 35)).heap.size = w2.heap.size + 1 + 1 + 1 := by simp
    rw [hs] at h1
    exact h1
  have g2 : ∀ j, j < 4 → ((((w2.alloc (.cells #[.float .f64 X1, .float .f64 X1, .float .f64 X2, .float .f64 X2] 35)).alloc (.cells #[.float .f64 Y1, .float .f64 Y2, .float .f64 Y1, .float .f64 Y2] 35)).alloc (.cells #[.float .f64 0, .float .f64 0, .float .f64 0, .float .f64 0] 35)).alloc (.cells #[.float .f64 0, .float .f64 0, .float .f64 0, .float .f64 0] 35)).frozen? ⟨w2.heap.size + 1 + 1, j, none⟩ = false := fun j hj => by
    simp [go_sem]
  have g3 : ∀ j, j < 4 → ((((w2.alloc (.cells #[.float .f64 X1, .float .f64 X1, .float .f64 X2, .float .f64 X2] 35)).alloc (.cells #[.float .f64 Y1, .float .f64 Y2, .float .f64 Y1, .float .f64 Y2] 35)).alloc (.cells #[.float .f64 0, .float .f64 0, .float .f64 0, .float .f64 0] 35)).alloc (.cells #[.float .f64 0, .float .f64 0, .float .f64 0, .float .f64 0] 35)).frozen? ⟨w2.heap.size + 1 + 1 + 1, j, none⟩ = false := fun j hj => by
    simp [go_sem]
  have pf0 : PF w2 (four4 X1 X1 X2 X2) (four4 Y1 Y2 Y1 Y2) dn up 0 0 ((((w2.alloc (.cells #[.float .f64 X1, .float .f64 X1, .float .f64 X2, .float .f64 X2] 35)).alloc (.cells #[.float .f64 Y1, .float .f64 Y2, .float .f64 Y1, .float .f64 Y2] 35)).alloc (.cells #[.float .f64 0, .float .f64 0, .float .f64 0, .float .f64 0] 35)).alloc (.cells #[.float .f64 0, .float .f64 0, .float .f64 0, .float .f64 0] 35)) := ⟨by
      repeat (first | exact Below.refl _ _ | refine bl_alloc ?_),
    by simp, q0, q1, fun j hj => by rw [q2 j hj, four4_zero]; simp, fun j hj => by rw [q3 j hj, four4_zero]; simp, g2, g3⟩
  clear q0 q1 q2 q3 g2 g3
  go_loopw [11] (fun i wr => ∃ k : Nat, k ≤ 4 ∧ i = .int .i64 k ∧ PF w2 (four4 X1 X1 X2 X2) (four4 Y1 Y2 Y1 Y2) dn up k k wr) (fun i _ => 4 - (intOf i).toNat)
  case atStart => exact ⟨0, by omega, rfl, pf0⟩
  case round =>
    obtain ⟨k, hk, rfl, pf⟩ := hrel
    clear pf0
    by_cases hlt : k < 4
    · have e1 := pf.xs k hlt
      have e2 := pf.ys k hlt
      have e3 : wr.cell? ⟨w2.heap.size + 1 + 1, k, none⟩ = some (.float .f64 0) := by have := pf.lo k hlt; rwa [if_neg (by omega)] at this
      have e4 := pf.fl k hlt
      have c1 := m1 k hlt
      have c2 := m2 k hlt
      have H : Hid (PF w2 (four4 X1 X1 X2 X2) (four4 Y1 Y2 Y1 Y2) dn up k k wr) := pf
      clear pf m1 m2
      have hx : ∃ xk, xk = four4 X1 X1 X2 X2 k := ⟨_, rfl⟩
      have hy : ∃ yk, yk = four4 Y1 Y2 Y1 Y2 k := ⟨_, rfl⟩
      obtain ⟨xk, hxk⟩ := hx
      obtain ⟨yk, hyk⟩ := hy
      rw [← hxk] at e1 c1 c2
      rw [← hyk] at e2 c1 c2
      have Hx : Hid (xk = four4 X1 X1 X2 X2 k) := hxk
      have Hy : Hid (yk = four4 Y1 Y2 Y1 Y2 k) := hyk
      clear hxk hyk
      go_wp2_with fail
      go_region_held3 (fun w' => w'.cell? ⟨w2.heap.size, k, none⟩ = some (.float .f64 xk) ∧ w'.cell? ⟨w2.heap.size + 1, k, none⟩ = some (.float .f64 yk)) (((try dsimp only); (repeat' apply And.intro) <;> first | go_keep | exact bkeep2 hb (by simp [*]) | (rw [set_other (by first | omega | (simp; done) | (simp; omega))]; simp [*]; done))) (first | (go_at_call 108; with_reducible refine (c1 _).mono ?_; rintro e w' ⟨rfl, hb⟩; have : w'.cell? ⟨w2.heap.size + 1 + 1, k, none⟩ = some (.float .f64 0) := bkeep2 hb (by simp [*]); have : w'.frozen? ⟨w2.heap.size + 1 + 1, k, none⟩ = false := bfroz2 hb (by simp [*]; rfl) (by simp [*])))
      have pf2 := H.out.lo_next (bl_undrew hb) hlt
      clear e1 e2 e3 e4 H
      generalize w'.setCell ⟨w2.heap.size + 1 + 1, k, none⟩ (.float .f64 (B (dn k))) = v1 at *
      have e1 := pf2.xs k hlt
      have e2 := pf2.ys k hlt
      rw [← Hx.out] at e1
      rw [← Hy.out] at e2
      have e3 : v1.cell? ⟨w2.heap.size + 1 + 1 + 1, k, none⟩ = some (.float .f64 0) := by have := pf2.hi k hlt; rwa [if_neg (by omega)] at this
      have e4 := pf2.fh k hlt
      have H : Hid (PF w2 (four4 X1 X1 X2 X2) (four4 Y1 Y2 Y1 Y2) dn up (k + 1) k v1) := pf2
      clear pf2
      go_wp2_with fail
      go_region_held3 (fun w' => w'.cell? ⟨w2.heap.size, k, none⟩ = some (.float .f64 xk) ∧ w'.cell? ⟨w2.heap.size + 1, k, none⟩ = some (.float .f64 yk)) (((try dsimp only); (repeat' apply And.intro) <;> first | go_keep | exact bkeep2 hb (by simp [*]) | (rw [set_other (by first | omega | (simp; done) | (simp; omega))]; simp [*]; done))) (first | (go_at_call 108; with_reducible refine (c2 _).mono ?_; rintro e w' ⟨rfl, hb⟩; have : w'.cell? ⟨w2.heap.size + 1 + 1 + 1, k, none⟩ = some (.float .f64 0) := bkeep2 hb (by simp [*]); have : w'.frozen? ⟨w2.heap.size + 1 + 1 + 1, k, none⟩ = false := bfroz2 hb (by simp [*]; rfl) (by simp [*])))
      have pf3 := H.out.hi_next (bl_undrew hb) hlt
      go_wp2_with fail
      go_roundw
      case rel => exact ⟨k + 1, by omega, by go_num, pf3⟩
      case measure => simp [intOf]; omega
    · have : k = 4 := by omega
      subst this
      clear m1 m2
      have hl : ∀ j, j < 4 → wr.cell? ⟨w2.heap.size + 1 + 1, j, none⟩ = some (.float .f64 (B (dn j))) := fun j hj => by have := pf.lo j hj; rwa [if_pos hj] at this
      have hh : ∀ j, j < 4 → wr.cell? ⟨w2.heap.size + 1 + 1 + 1, j, none⟩ = some (.float .f64 (B (up j))) := fun j hj => by have := pf.hi j hj; rwa [if_pos hj] at this
      have hbr := pf.bl
      have HL := least_w _ dn hdn wr hl
      have HH : Hid _ := hh
      clear pf hl hh
      have : wr.cell? ⟨w.heap.size + 1 + 1, 0, none⟩ = some (.float .f64 0) := bkeep hbr (by assumption) (by first | omega | (simp; done) | (simp; omega))
      have : wr.frozen? ⟨w.heap.size + 1 + 1, 0, none⟩ = false := bfroz hbr (by assumption) (by first | omega | (simp; done) | (simp; omega))
      have : wr.cell? ⟨w.heap.size + 1 + 1, 1, none⟩ = some (.float .f64 0) := bkeep hbr (by assumption) (by first | omega | (simp; done) | (simp; omega))
      have : wr.frozen? ⟨w.heap.size + 1 + 1, 1, none⟩ = false := bfroz hbr (by assumption) (by first | omega | (simp; done) | (simp; omega))
      go_wp2_with fail
      go_at_call 109
      refine HL.mono ?_
      rintro e w3 ⟨rfl, hb3⟩
      have : w3.cell? ⟨w.heap.size + 1 + 1, 0, none⟩ = some (.float .f64 0) := bkeep2 hb3 (by assumption)
      have : w3.frozen? ⟨w.heap.size + 1 + 1, 0, none⟩ = false := bfroz2 hb3 (v := .float .f64 0) (by assumption) (by assumption)
      have : w3.cell? ⟨w.heap.size + 1 + 1, 1, none⟩ = some (.float .f64 0) := bkeep2 hb3 (by assumption)
      have : w3.frozen? ⟨w.heap.size + 1 + 1, 1, none⟩ = false := bfroz2 hb3 (v := .float .f64 0) (by assumption) (by assumption)
      have HG := greatest_w _ up hup w3 fun j hj => bkeep2 hb3 (HH.out j hj)
      go_wp2_with fail
      go_at_call 110
      refine HG.mono ?_
      rintro e w4 ⟨rfl, hb4⟩
      have : w4.cell? ⟨w.heap.size + 1 + 1, 0, none⟩ = some (.float .f64 0) := bkeep2 hb4 (by assumption)
      have : w4.frozen? ⟨w.heap.size + 1 + 1, 0, none⟩ = false := bfroz2 hb4 (v := .float .f64 0) (by assumption) (by assumption)
      have : w4.cell? ⟨w.heap.size + 1 + 1, 1, none⟩ = some (.float .f64 0) := bkeep2 hb4 (by assumption)
      have : w4.frozen? ⟨w.heap.size + 1 + 1, 1, none⟩ = false := bfroz2 hb4 (v := .float .f64 0) (by assumption) (by assumption)
      go_wp2_with fail
      go_at_call 79
      refine (p _).mono ?_
      rintro e w5 ⟨rfl, hb5⟩
      have : w5.cell? ⟨w.heap.size + 1 + 1, 0, none⟩ = some (.float .f64 0) := bkeep2 hb5 (by assumption)
      have : w5.frozen? ⟨w.heap.size + 1 + 1, 0, none⟩ = false := bfroz2 hb5 (v := .float .f64 0) (by assumption) (by assumption)
      have : w5.cell? ⟨w.heap.size + 1 + 1, 1, none⟩ = some (.float .f64 0) := bkeep2 hb5 (by assumption)
      have : w5.frozen? ⟨w.heap.size + 1 + 1, 1, none⟩ = false := bfroz2 hb5 (v := .float .f64 0) (by assumption) (by assumption)
      go_wp2_with fail
      refine bodyPost_ret (v := .agg #[.float .f64 c, .float .f64 d]) (by simp [results, Tryz.results78, go_sem, *]) rfl ⟨rfl, ?_⟩
      repeat (first | exact Below.refl _ _ | assumption | refine Below.drew ?_ | refine bl_drewN ?_ _ | refine Below.setCell ?_ (by first | omega | (simp; done) | (simp; omega)) _ | refine Below.alloc ?_ (by first | omega | (simp; done) | (simp; omega)) _ | refine bl_next ?_ (by assumption) | refine bl_trans ?_ (by assumption) (by first | omega | (simp; done) | (simp; omega)))

end Go.Proofs.YtacnclofbnafiabGreatDoor
