import Derived.Test.YtacnclofbnafiaaS0
import Derived.Test.YtacnclofbnafiaaK11
import Derived.Test.YtacnclofbnafiaaM1
namespace Go.Proofs.Ytacnclofbnafiaa
open Go.RowKit Fl

theorem tgt {x y : Nat} {k l : Int} (hx : Key x k) (hy : Key y l) (h : l < k) : (Ieee.double.order x y == some .gt) = true := by rw [hx.ogt hy h]; rfl
theorem tlt {x y : Nat} {k l : Int} (hx : Key x k) (hy : Key y l) (h : k < l) : (Ieee.double.order x y == some .lt) = true := by rw [hx.olt hy h]; rfl
theorem ngt {x y : Nat} {k l : Int} (hx : Key x k) (hy : Key y l) (h : k ≤ l) : (Ieee.double.order x y == some .gt) = false := by
  rw [hx.order hy]
  have : compare k l ≠ .gt := by rw [Ne, Int.compare_eq_gt]; omega
  simp [this]
theorem nlt {x y : Nat} {k l : Int} (hx : Key x k) (hy : Key y l) (h : l ≤ k) : (Ieee.double.order x y == some .lt) = false := by
  rw [hx.order hy]
  have : compare k l ≠ .lt := by rw [Ne, Int.compare_eq_lt]; omega
  simp [this]
theorem tge {x y : Nat} {k l : Int} (hx : Key x k) (hy : Key y l) (h : l ≤ k) : (Ieee.double.order x y == some .gt || Ieee.double.order x y == some .eq) = true := by
  rcases Int.lt_or_eq_of_le h with g | g
  · rw [hx.ogt hy g]; rfl
  · rw [hx.oeq hy g.symm]; rfl
theorem nge {x y : Nat} {k l : Int} (hx : Key x k) (hy : Key y l) (h : k < l) : (Ieee.double.order x y == some .gt || Ieee.double.order x y == some .eq) = false := by
  rw [hx.olt hy h]; rfl
theorem tle {x y : Nat} {k l : Int} (hx : Key x k) (hy : Key y l) (h : k ≤ l) : (Ieee.double.order x y == some .lt || Ieee.double.order x y == some .eq) = true := by
  rcases Int.lt_or_eq_of_le h with g | g
  · rw [hx.olt hy g]; rfl
  · rw [hx.oeq hy g]; rfl
theorem nle {x y : Nat} {k l : Int} (hx : Key x k) (hy : Key y l) (h : l < k) : (Ieee.double.order x y == some .lt || Ieee.double.order x y == some .eq) = false := by
  rw [hx.ogt hy h]; rfl
theorem pplain_ok {X1 X2 : Nat} {k l : Int} (h : Iv X1 X2 k l) : ∀ w, Calls Try.prog 145 #[.agg #[.float .f64 X1, .float .f64 X2]] w fun e w' => e = .returned (.agg #[.float .f64 (B k), .float .f64 (B l)]) ∧ Below w.heap.size w w' := plain_ok_w X1 X2 _ _ (none_no h) (plain_key h.x) (plain_key h.y)
theorem pplain_no {X1 X2 : Nat} (h : NoIv X1 X2) (hX1 : X1 < 18446744073709551616) (hX2 : X2 < 18446744073709551616) : ∀ w, Calls Try.prog 145 #[.agg #[.float .f64 X1, .float .f64 X2]] w fun e w' => e = .returned (.agg #[.float .f64 (B INF), .float .f64 (B (-INF))]) ∧ Below w.heap.size w w' := plain_no_w X1 X2 _ _ (none_yes h hX1 hX2) pempty
/-- No number: the Lo is above the Hi. -/
theorem no_of {X1 X2 : Nat} {k l : Int} (hx : Key X1 k) (hy : Key X2 l) (h : l < k) : NoIv X1 X2 := fun k2 l2 g => by
  have u1 := g.x.unique hx
  have u2 := g.y.unique hy
  have := g.le
  omega
theorem reither_ok {X1 X2 Y1 Y2 : Nat} {k l k' l' : Int} (h : Iv X1 X2 k l) (h' : Iv Y1 Y2 k' l') : ∀ w, Calls Try.prog 49 #[.agg #[.float .f64 X1, .float .f64 X2], .agg #[.float .f64 Y1, .float .f64 Y2]] w fun e w' => e = .returned (.agg #[.float .f64 (B (min k k')), .float .f64 (B (max l l'))]) ∧ Below w.heap.size w w' := by
  have lo : ((Ieee.double.order Y1 (B k) == some .lt) = true ∧ Ieee.double.add Y1 0 = some (B (min k k'))) ∨ ((Ieee.double.order Y1 (B k) == some .lt) = false ∧ B (min k k') = B k) := by
    rcases Int.lt_or_le k' k with g | g
    · refine .inl ⟨tlt h'.x (Key.at h.x.pl) g, ?_⟩
      rw [h'.x.plus0, show min k k' = k' by omega]
    · exact .inr ⟨nlt h'.x (Key.at h.x.pl) g, by rw [show min k k' = k by omega]⟩
  have hi : ((Ieee.double.order Y2 (B l) == some .gt) = true ∧ Ieee.double.add Y2 0 = some (B (max l l'))) ∨ ((Ieee.double.order Y2 (B l) == some .gt) = false ∧ B (max l l') = B l) := by
    rcases Int.lt_or_le l l' with g | g
    · refine .inl ⟨tgt h'.y (Key.at h.y.pl) g, ?_⟩
      rw [h'.y.plus0, show max l l' = l' by omega]
    · exact .inr ⟨ngt h'.y (Key.at h.y.pl) g, by rw [show max l l' = l by omega]⟩
  rcases lo with ⟨p1, p2⟩ | ⟨p1, p2⟩ <;> rcases hi with ⟨q1, q2⟩ | ⟨q1, q2⟩
  · exact reither_11_w X1 X2 Y1 Y2 _ _ _ _ (rnone_no h) (rnone_no h') (rplain h.x h.y) p1 q1 p2 q2
  · exact reither_10_w X1 X2 Y1 Y2 _ _ _ _ (rnone_no h) (rnone_no h') (rplain h.x h.y) p1 q1 p2 q2
  · exact reither_01_w X1 X2 Y1 Y2 _ _ _ _ (rnone_no h) (rnone_no h') (rplain h.x h.y) p1 q1 p2 q2
  · exact reither_00_w X1 X2 Y1 Y2 _ _ _ _ (rnone_no h) (rnone_no h') (rplain h.x h.y) p1 q1 p2 q2
theorem reither_nox {X1 X2 Y1 Y2 : Nat} {k' l' : Int} (hX1 : X1 < 18446744073709551616) (hX2 : X2 < 18446744073709551616) (h : NoIv X1 X2) (h' : Iv Y1 Y2 k' l') : ∀ w, Calls Try.prog 49 #[.agg #[.float .f64 X1, .float .f64 X2], .agg #[.float .f64 Y1, .float .f64 Y2]] w fun e w' => e = .returned (.agg #[.float .f64 (B k'), .float .f64 (B l')]) ∧ Below w.heap.size w w' :=
  reither_nox_w X1 X2 Y1 Y2 _ _ (rnone_yes h hX1 hX2) (rnone_no h') (rplain h'.x h'.y)
theorem reither_noy {X1 X2 Y1 Y2 : Nat} {k l : Int} (hY1 : Y1 < 18446744073709551616) (hY2 : Y2 < 18446744073709551616) (h : Iv X1 X2 k l) (h' : NoIv Y1 Y2) : ∀ w, Calls Try.prog 49 #[.agg #[.float .f64 X1, .float .f64 X2], .agg #[.float .f64 Y1, .float .f64 Y2]] w fun e w' => e = .returned (.agg #[.float .f64 (B k), .float .f64 (B l)]) ∧ Below w.heap.size w w' :=
  reither_noy_w X1 X2 Y1 Y2 _ _ (rnone_no h) (rnone_yes h' hY1 hY2) (rplain h.x h.y)
theorem reither_no {X1 X2 Y1 Y2 : Nat} (hX1 : X1 < 18446744073709551616) (hX2 : X2 < 18446744073709551616) (hY1 : Y1 < 18446744073709551616) (hY2 : Y2 < 18446744073709551616) (h : NoIv X1 X2) (h' : NoIv Y1 Y2) : ∀ w, Calls Try.prog 49 #[.agg #[.float .f64 X1, .float .f64 X2], .agg #[.float .f64 Y1, .float .f64 Y2]] w fun e w' => e = .returned (.agg #[.float .f64 (B INF), .float .f64 (B (-INF))]) ∧ Below w.heap.size w w' :=
  reither_no_w X1 X2 Y1 Y2 _ _ (rnone_yes h hX1 hX2) (rnone_yes h' hY1 hY2) rempty
end Go.Proofs.Ytacnclofbnafiaa
