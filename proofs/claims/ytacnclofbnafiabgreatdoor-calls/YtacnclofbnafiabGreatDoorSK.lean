import Derived.Test.YtacnclofbnafiabGreatDoorK9
import Derived.Test.YtacnclofbnafiabGreatDoorKA
import Derived.Test.YtacnclofbnafiabGreatDoorBB
import Derived.Deep.DeepCutAuto
namespace Go.Proofs.YtacnclofbnafiabGreatDoor
open Go.RowKit Fl

theorem rempty : ∀ w, Calls Tryz.prog 106 #[] w fun e w' => e = .returned (.agg #[.float .f64 (B INF), .float .f64 (B (-INF))]) ∧ Below w.heap.size w w' := rempty_w _ _ infp infn
theorem rnone_no {X1 X2 : Nat} {k l : Int} (h : Iv X1 X2 k l) : ∀ w, Calls Tryz.prog 105 #[.agg #[.float .f64 X1, .float .f64 X2]] w fun e w' => e = .returned (.bool false) ∧ Below w.heap.size w w' := by
  have hI := INF_pos
  have h1 : (Ieee.double.order X1 X1 != some .eq) = false := by rw [h.x.self]; rfl
  have h2 : (Ieee.double.order X2 X2 != some .eq) = false := by rw [h.y.self]; rfl
  have e1 := h.le
  have e2 := h.lo
  have e3 := h.hi
  have h3 : (Ieee.double.order X1 X2 == some .gt) = false := by
    rw [h.x.order h.y]
    have : compare k l ≠ .gt := by rw [Ne, Int.compare_eq_gt]; omega
    simp [this]
  have h4 : (Ieee.double.order X1 9218868437227405311 == some .gt) = false := by
    rw [h.x.order Key.max]
    have : compare k (INF - 1) ≠ .gt := by rw [Ne, Int.compare_eq_gt]; omega
    simp [this]
  have h5 : (Ieee.double.order X2 18442240474082181119 == some .lt) = false := by
    rw [h.y.order Key.nmax]
    have : compare l (1 - INF) ≠ .lt := by rw [Ne, Int.compare_eq_lt]; omega
    simp [this]
  exact rnone5_w X1 X2 h1 h2 h3 h4 h5
theorem rnone_yes {X1 X2 : Nat} (h : NoIv X1 X2) (hX1 : X1 < 18446744073709551616) (hX2 : X2 < 18446744073709551616) : ∀ w, Calls Tryz.prog 105 #[.agg #[.float .f64 X1, .float .f64 X2]] w fun e w' => e = .returned (.bool true) ∧ Below w.heap.size w w' := by
  rcases h.cases hX1 hX2 with g | ⟨k, g1, g⟩ | ⟨k, l, g1, g2, g⟩
  · exact rnone0_w X1 X2 (by rw [g.l]; rfl)
  · exact rnone1_w X1 X2 (by rw [g1.self]; rfl) (by rw [g.l]; rfl)
  · have h1 : (Ieee.double.order X1 X1 != some .eq) = false := by rw [g1.self]; rfl
    have h2 : (Ieee.double.order X2 X2 != some .eq) = false := by rw [g2.self]; rfl
    rcases g with g | ⟨g, g3⟩ | ⟨g, g3, g4⟩
    · exact rnone2_w X1 X2 h1 h2 (by rw [g1.ogt g2 g]; rfl)
    · have h3 : (Ieee.double.order X1 X2 == some .gt) = false := by
        rw [g1.order g2]
        have : compare k l ≠ .gt := by rw [Ne, Int.compare_eq_gt]; omega
        simp [this]
      exact rnone3_w X1 X2 h1 h2 h3 (by rw [g1.ogt Key.max (by omega)]; rfl)
    · have h3 : (Ieee.double.order X1 X2 == some .gt) = false := by
        rw [g1.order g2]
        have : compare k l ≠ .gt := by rw [Ne, Int.compare_eq_gt]; omega
        simp [this]
      have h4 : (Ieee.double.order X1 9218868437227405311 == some .gt) = false := by
        rw [g1.order Key.max]
        have : compare k (INF - 1) ≠ .gt := by rw [Ne, Int.compare_eq_gt]; omega
        simp [this]
      exact rnone4_w X1 X2 h1 h2 h3 h4 (by rw [g2.olt Key.nmax (by omega)]; rfl)
theorem rbare_no {a b c d : Nat} {k l m n : Int} (h : Iv a b k l) (h' : Iv c d m n) : ∀ w, Calls Tryz.prog 74 #[.agg #[.float .f64 a, .float .f64 b, .float .f64 c, .float .f64 d]] w fun e w' => e = .returned (.bool false) ∧ Below w.heap.size w w' :=
  rbare_ff_w _ _ _ _ (rnone_no h) (rnone_no h')
theorem rbare_yes {a b c d : Nat} (ha : a < 18446744073709551616) (hb : b < 18446744073709551616) (hc : c < 18446744073709551616) (hd : d < 18446744073709551616) (h : NoIv a b ∨ NoIv c d) : ∀ w, Calls Tryz.prog 74 #[.agg #[.float .f64 a, .float .f64 b, .float .f64 c, .float .f64 d]] w fun e w' => e = .returned (.bool true) ∧ Below w.heap.size w w' := by
  rcases Iv.or a b with ⟨k, l, g⟩ | g <;> rcases Iv.or c d with ⟨m, n, g'⟩ | g'
  · rcases h with h | h
    · exact absurd g (h k l)
    · exact absurd g' (h m n)
  · exact rbare_ft_w _ _ _ _ (rnone_no g) (rnone_yes g' hc hd)
  · exact rbare_tf_w _ _ _ _ (rnone_yes g ha hb) (rnone_no g')
  · exact rbare_tt_w _ _ _ _ (rnone_yes g ha hb) (rnone_yes g' hc hd)

end Go.Proofs.YtacnclofbnafiabGreatDoor

namespace Go.Proofs.YtacnclofbnafiabGreatDoor
open Go.RowKit Fl

end Go.Proofs.YtacnclofbnafiabGreatDoor

namespace Go.Proofs.YtacnclofbnafiabGreatDoor
open Go.RowKit Fl


def mn (f : Nat → Int) : Nat → Int
  | 0 => f 0
  | 1 => f 0
  | k + 2 => min (mn f (k + 1)) (f (k + 1))
def mx (f : Nat → Int) : Nat → Int
  | 0 => f 0
  | 1 => f 0
  | k + 2 => max (mx f (k + 1)) (f (k + 1))
def four4 (a b c d : Nat) (k : Nat) : Nat := if k = 0 then a else if k = 1 then b else if k = 2 then c else d

/-- The four4 lists of Product, kl and kh of whose cells are written. -/
structure PF (w2 : World) (Xs Ys : Nat → Nat) (dn up : Nat → Int) (kl kh : Nat) (v : World) : Prop where
  bl : Below w2.heap.size w2 v
  sz : w2.heap.size + 1 + 1 + 1 < v.heap.size
  xs : ∀ j, j < 4 → v.cell? ⟨w2.heap.size, j, none⟩ = some (.float .f64 (Xs j))
  ys : ∀ j, j < 4 → v.cell? ⟨w2.heap.size + 1, j, none⟩ = some (.float .f64 (Ys j))
  lo : ∀ j, j < 4 → v.cell? ⟨w2.heap.size + 1 + 1, j, none⟩ = some (.float .f64 (if j < kl then B (dn j) else 0))
  hi : ∀ j, j < 4 → v.cell? ⟨w2.heap.size + 1 + 1 + 1, j, none⟩ = some (.float .f64 (if j < kh then B (up j) else 0))
  fl : ∀ j, j < 4 → v.frozen? ⟨w2.heap.size + 1 + 1, j, none⟩ = false
  fh : ∀ j, j < 4 → v.frozen? ⟨w2.heap.size + 1 + 1 + 1, j, none⟩ = false
theorem PF.next {w2 v v' : World} {Xs Ys : Nat → Nat} {dn up : Nat → Int} {kl kh : Nat} (h : PF w2 Xs Ys dn up kl kh v) (hb : Below v.heap.size v v') : PF w2 Xs Ys dn up kl kh v' :=
  ⟨bl_next h.bl hb, Nat.lt_of_lt_of_le h.sz hb.size, fun j hj => bkeep2 hb (h.xs j hj), fun j hj => bkeep2 hb (h.ys j hj), fun j hj => bkeep2 hb (h.lo j hj), fun j hj => bkeep2 hb (h.hi j hj),
   fun j hj => bfroz2 hb (h.lo j hj) (h.fl j hj), fun j hj => bfroz2 hb (h.hi j hj) (h.fh j hj)⟩
theorem set_same {w : World} {p : Addr} {u v : Value} (h : w.cell? p = some u) : (w.setCell p v).cell? p = some v := World.cell?_setCell_same w p v h
theorem PF.lo_next {w2 v v' : World} {Xs Ys : Nat → Nat} {dn up : Nat → Int} {k : Nat} (h : PF w2 Xs Ys dn up k k v) (hb : Below v.heap.size v v') (hk : k < 4) :
    PF w2 Xs Ys dn up (k + 1) k (v'.setCell ⟨w2.heap.size + 1 + 1, k, none⟩ (.float .f64 (B (dn k)))) := by
  have h' := h.next hb
  refine ⟨bl_set h'.bl (by first | (simp; done) | (simp; omega)), by simpa using h'.sz, fun j hj => ?_, fun j hj => ?_, fun j hj => ?_, fun j hj => ?_, fun j hj => ?_, fun j hj => ?_⟩
  · rw [set_other (by first | (simp; done) | (simp; omega))]; exact h'.xs j hj
  · rw [set_other (by first | (simp; done) | (simp; omega))]; exact h'.ys j hj
  · by_cases e : j = k
    · subst e
      rw [set_same (h'.lo j hj), if_pos (by omega)]
    · have h1 := h'.lo j hj
      have h2 := World.cell?_setCell_other (w := v') (a := ⟨w2.heap.size + 1 + 1, k, none⟩) (b := ⟨w2.heap.size + 1 + 1, j, none⟩) (v := .float .f64 (B (dn k))) (fun h => e (by injection h with _ h1 _; exact h1.symm))
      rw [h2, h1]
      by_cases g : j < k
      · rw [if_pos g, if_pos (by omega)]
      · rw [if_neg g, if_neg (by omega)]
  · rw [set_other (by first | (simp; done) | (simp; omega))]; exact h'.hi j hj
  · rw [World.frozen?_setCell]; exact h'.fl j hj
  · rw [World.frozen?_setCell]; exact h'.fh j hj
end Go.Proofs.YtacnclofbnafiabGreatDoor
