import Derived.Test.YtacnclofbnafiaaSH
import Derived.Test.YtacnclofbnafiaaK11b
import Derived.Test.YtacnclofbnafiaaK7
import Derived.Test.YtacnclofbnafiaaK7b
namespace Go.Proofs.Ytacnclofbnafiaa
open Go.RowKit Fl

theorem pmeet_ok {X1 X2 Y1 Y2 : Nat} {k l k' l' : Int} (h : Iv X1 X2 k l) (h' : Iv Y1 Y2 k' l') (hm : max k k' ≤ min l l') : ∀ w, Calls Try.prog 109 #[.agg #[.float .f64 X1, .float .f64 X2], .agg #[.float .f64 Y1, .float .f64 Y2]] w fun e w' => e = .returned (.agg #[.float .f64 (B (max k k')), .float .f64 (B (min l l'))]) ∧ Below w.heap.size w w' := by
  obtain ⟨a, ka, _, ra⟩ := max_key h.x h'.x
  obtain ⟨b, kb, _, rb⟩ := min_key h.y h'.y
  have h1 := h.lo
  have h2 := h'.lo
  have h3 := h.hi
  have h4 := h'.hi
  exact meet_ok_w X1 X2 Y1 Y2 a b _ _ (none_no h) (none_no h') ra rb (pplain_ok ⟨ka, kb, hm, by omega, by omega⟩)
theorem pmeet_emp {X1 X2 Y1 Y2 : Nat} {k l k' l' : Int} (h : Iv X1 X2 k l) (h' : Iv Y1 Y2 k' l') (hm : min l l' < max k k') : ∀ w, Calls Try.prog 109 #[.agg #[.float .f64 X1, .float .f64 X2], .agg #[.float .f64 Y1, .float .f64 Y2]] w fun e w' => e = .returned (.agg #[.float .f64 (B INF), .float .f64 (B (-INF))]) ∧ Below w.heap.size w w' := by
  obtain ⟨a, ka, _, ra⟩ := max_key h.x h'.x
  obtain ⟨b, kb, _, rb⟩ := min_key h.y h'.y
  exact meet_ok_w X1 X2 Y1 Y2 a b _ _ (none_no h) (none_no h') ra rb (pplain_no (no_of ka kb hm) ka.lt kb.lt)
theorem pmeet_no {X1 X2 Y1 Y2 : Nat} (hX1 : X1 < 18446744073709551616) (hX2 : X2 < 18446744073709551616) (hY1 : Y1 < 18446744073709551616) (hY2 : Y2 < 18446744073709551616) (h : NoIv X1 X2 ∨ NoIv Y1 Y2) : ∀ w, Calls Try.prog 109 #[.agg #[.float .f64 X1, .float .f64 X2], .agg #[.float .f64 Y1, .float .f64 Y2]] w fun e w' => e = .returned (.agg #[.float .f64 (B INF), .float .f64 (B (-INF))]) ∧ Below w.heap.size w w' := by
  rcases Iv.or X1 X2 with ⟨k, l, g⟩ | g
  · rcases h with h | h
    · exact absurd g (h k l)
    · exact meet_noy_w X1 X2 Y1 Y2 _ _ (none_no g) (none_yes h hY1 hY2) pempty
  · exact meet_nox_w X1 X2 Y1 Y2 _ _ (none_yes g hX1 hX2) pempty
/-- The Lo and the Hi of Both, ahead of its last test. -/
theorem both_lo {X1 X2 Y1 Y2 : Nat} {k l k' l' : Int} (h : Iv X1 X2 k l) (h' : Iv Y1 Y2 k' l') : ((Ieee.double.order Y1 (B k) == some .gt) = true ∧ Ieee.double.add Y1 0 = some (B (max k k'))) ∨ ((Ieee.double.order Y1 (B k) == some .gt) = false ∧ B (max k k') = B k) := by
  rcases Int.lt_or_le k k' with g | g
  · refine .inl ⟨tgt h'.x (Key.at h.x.pl) g, ?_⟩
    rw [h'.x.plus0, show max k k' = k' by omega]
  · exact .inr ⟨ngt h'.x (Key.at h.x.pl) g, by rw [show max k k' = k by omega]⟩
theorem both_hi {X1 X2 Y1 Y2 : Nat} {k l k' l' : Int} (h : Iv X1 X2 k l) (h' : Iv Y1 Y2 k' l') : ((Ieee.double.order Y2 (B l) == some .lt) = true ∧ Ieee.double.add Y2 0 = some (B (min l l'))) ∨ ((Ieee.double.order Y2 (B l) == some .lt) = false ∧ B (min l l') = B l) := by
  rcases Int.lt_or_le l' l with g | g
  · refine .inl ⟨tlt h'.y (Key.at h.y.pl) g, ?_⟩
    rw [h'.y.plus0, show min l l' = l' by omega]
  · exact .inr ⟨nlt h'.y (Key.at h.y.pl) g, by rw [show min l l' = l by omega]⟩
theorem rboth_ok {X1 X2 Y1 Y2 : Nat} {k l k' l' : Int} (h : Iv X1 X2 k l) (h' : Iv Y1 Y2 k' l') (hm : max k k' ≤ min l l') : ∀ w, Calls Try.prog 47 #[.agg #[.float .f64 X1, .float .f64 X2], .agg #[.float .f64 Y1, .float .f64 Y2]] w fun e w' => e = .returned (.agg #[.float .f64 (B (max k k')), .float .f64 (B (min l l'))]) ∧ Below w.heap.size w w' := by
  have h1 := h.lo
  have h2 := h'.lo
  have h3 := h.hi
  have h4 := h'.hi
  have z := rnone_no (⟨Key.at (pl_max h.x.pl h'.x.pl), Key.at (pl_min h.y.pl h'.y.pl), hm, by omega, by omega⟩ : Iv (B (max k k')) (B (min l l')) _ _)
  rcases both_lo h h' with ⟨p1, p2⟩ | ⟨p1, p2⟩ <;> rcases both_hi h h' with ⟨q1, q2⟩ | ⟨q1, q2⟩
  · exact rboth_110_w X1 X2 Y1 Y2 _ _ _ _ (rnone_no h) (rnone_no h') (rplain h.x h.y) p1 q1 p2 q2 z
  · exact rboth_100_w X1 X2 Y1 Y2 _ _ _ _ (rnone_no h) (rnone_no h') (rplain h.x h.y) p1 q1 p2 q2 z
  · exact rboth_010_w X1 X2 Y1 Y2 _ _ _ _ (rnone_no h) (rnone_no h') (rplain h.x h.y) p1 q1 p2 q2 z
  · exact rboth_000_w X1 X2 Y1 Y2 _ _ _ _ (rnone_no h) (rnone_no h') (rplain h.x h.y) p1 q1 p2 q2 z
theorem rboth_emp {X1 X2 Y1 Y2 : Nat} {k l k' l' : Int} (h : Iv X1 X2 k l) (h' : Iv Y1 Y2 k' l') (hm : min l l' < max k k') : ∀ w, Calls Try.prog 47 #[.agg #[.float .f64 X1, .float .f64 X2], .agg #[.float .f64 Y1, .float .f64 Y2]] w fun e w' => e = .returned (.agg #[.float .f64 (B INF), .float .f64 (B (-INF))]) ∧ Below w.heap.size w w' := by
  have z := rnone_yes (no_of (Key.at (pl_max h.x.pl h'.x.pl)) (Key.at (pl_min h.y.pl h'.y.pl)) hm) (Key.at (pl_max h.x.pl h'.x.pl)).lt (Key.at (pl_min h.y.pl h'.y.pl)).lt
  rcases both_lo h h' with ⟨p1, p2⟩ | ⟨p1, p2⟩ <;> rcases both_hi h h' with ⟨q1, q2⟩ | ⟨q1, q2⟩
  · exact rboth_111_w X1 X2 Y1 Y2 _ _ _ _ _ _ (rnone_no h) (rnone_no h') (rplain h.x h.y) p1 q1 p2 q2 z rempty
  · exact rboth_101_w X1 X2 Y1 Y2 _ _ _ _ _ _ (rnone_no h) (rnone_no h') (rplain h.x h.y) p1 q1 p2 q2 z rempty
  · exact rboth_011_w X1 X2 Y1 Y2 _ _ _ _ _ _ (rnone_no h) (rnone_no h') (rplain h.x h.y) p1 q1 p2 q2 z rempty
  · exact rboth_001_w X1 X2 Y1 Y2 _ _ _ _ _ _ (rnone_no h) (rnone_no h') (rplain h.x h.y) p1 q1 p2 q2 z rempty
theorem rboth_no {X1 X2 Y1 Y2 : Nat} (hX1 : X1 < 18446744073709551616) (hX2 : X2 < 18446744073709551616) (hY1 : Y1 < 18446744073709551616) (hY2 : Y2 < 18446744073709551616) (h : NoIv X1 X2 ∨ NoIv Y1 Y2) : ∀ w, Calls Try.prog 47 #[.agg #[.float .f64 X1, .float .f64 X2], .agg #[.float .f64 Y1, .float .f64 Y2]] w fun e w' => e = .returned (.agg #[.float .f64 (B INF), .float .f64 (B (-INF))]) ∧ Below w.heap.size w w' := by
  rcases Iv.or X1 X2 with ⟨k, l, g⟩ | g
  · rcases h with h | h
    · exact absurd g (h k l)
    · exact rboth_noy_w X1 X2 Y1 Y2 _ _ (rnone_no g) (rnone_yes h hY1 hY2) rempty
  · rcases Iv.or Y1 Y2 with ⟨k, l, g'⟩ | g'
    · exact rboth_nox_w X1 X2 Y1 Y2 _ _ false (rnone_yes g hX1 hX2) (rnone_no g') rempty
    · exact rboth_nox_w X1 X2 Y1 Y2 _ _ true (rnone_yes g hX1 hX2) (rnone_yes g' hY1 hY2) rempty
-- Hull
theorem phull_ok {X1 X2 Y1 Y2 : Nat} {k l k' l' : Int} (h : Iv X1 X2 k l) (h' : Iv Y1 Y2 k' l') : ∀ w, Calls Try.prog 110 #[.agg #[.float .f64 X1, .float .f64 X2], .agg #[.float .f64 Y1, .float .f64 Y2]] w fun e w' => e = .returned (.agg #[.float .f64 (B (min k k')), .float .f64 (B (max l l'))]) ∧ Below w.heap.size w w' := by
  obtain ⟨a, ka, _, ra⟩ := min_key h.x h'.x
  obtain ⟨b, kb, _, rb⟩ := max_key h.y h'.y
  have h1 := h.lo
  have h2 := h'.lo
  have h3 := h.hi
  have h4 := h'.hi
  have h5 := h.le
  have h6 := h'.le
  exact hull_ok_w X1 X2 Y1 Y2 a b _ _ (none_no h) (none_no h') (cover_w X1 X2 Y1 Y2 a b ra rb) (pplain_ok ⟨ka, kb, by omega, by omega, by omega⟩)
theorem phull_nox {X1 X2 Y1 Y2 : Nat} {k' l' : Int} (hX1 : X1 < 18446744073709551616) (hX2 : X2 < 18446744073709551616) (h : NoIv X1 X2) (h' : Iv Y1 Y2 k' l') : ∀ w, Calls Try.prog 110 #[.agg #[.float .f64 X1, .float .f64 X2], .agg #[.float .f64 Y1, .float .f64 Y2]] w fun e w' => e = .returned (.agg #[.float .f64 (B k'), .float .f64 (B l')]) ∧ Below w.heap.size w w' :=
  hull_nox_w X1 X2 Y1 Y2 _ _ (none_yes h hX1 hX2) (pplain_ok h')
theorem phull_noy {X1 X2 Y1 Y2 : Nat} {k l : Int} (hY1 : Y1 < 18446744073709551616) (hY2 : Y2 < 18446744073709551616) (h : Iv X1 X2 k l) (h' : NoIv Y1 Y2) : ∀ w, Calls Try.prog 110 #[.agg #[.float .f64 X1, .float .f64 X2], .agg #[.float .f64 Y1, .float .f64 Y2]] w fun e w' => e = .returned (.agg #[.float .f64 (B k), .float .f64 (B l)]) ∧ Below w.heap.size w w' :=
  hull_noy_w X1 X2 Y1 Y2 _ _ (none_no h) (none_yes h' hY1 hY2) (pplain_ok h)
theorem phull_no {X1 X2 Y1 Y2 : Nat} (hX1 : X1 < 18446744073709551616) (hX2 : X2 < 18446744073709551616) (hY1 : Y1 < 18446744073709551616) (hY2 : Y2 < 18446744073709551616) (h : NoIv X1 X2) (h' : NoIv Y1 Y2) : ∀ w, Calls Try.prog 110 #[.agg #[.float .f64 X1, .float .f64 X2], .agg #[.float .f64 Y1, .float .f64 Y2]] w fun e w' => e = .returned (.agg #[.float .f64 (B INF), .float .f64 (B (-INF))]) ∧ Below w.heap.size w w' :=
  hull_nox_w X1 X2 Y1 Y2 _ _ (none_yes h hX1 hX2) (pplain_no h' hY1 hY2)
/-- Meet and Both answer the same. -/
theorem meet_pair (X1 X2 Y1 Y2 : Nat) (hX1 : X1 < 18446744073709551616) (hX2 : X2 < 18446744073709551616) (hY1 : Y1 < 18446744073709551616) (hY2 : Y2 < 18446744073709551616) : ∃ a b, Pl a ∧ Pl b ∧ (∀ w, Calls Try.prog 109 #[.agg #[.float .f64 X1, .float .f64 X2], .agg #[.float .f64 Y1, .float .f64 Y2]] w fun e w' => e = .returned (.agg #[.float .f64 (B a), .float .f64 (B b)]) ∧ Below w.heap.size w w') ∧ (∀ w, Calls Try.prog 47 #[.agg #[.float .f64 X1, .float .f64 X2], .agg #[.float .f64 Y1, .float .f64 Y2]] w fun e w' => e = .returned (.agg #[.float .f64 (B a), .float .f64 (B b)]) ∧ Below w.heap.size w w') := by
  rcases Iv.or X1 X2 with ⟨k, l, g⟩ | g
  · rcases Iv.or Y1 Y2 with ⟨k', l', g'⟩ | g'
    · rcases Int.lt_or_le (min l l') (max k k') with m | m
      · exact ⟨_, _, emp_pl.1, emp_pl.2, pmeet_emp g g' m, rboth_emp g g' m⟩
      · exact ⟨_, _, pl_max g.x.pl g'.x.pl, pl_min g.y.pl g'.y.pl, pmeet_ok g g' m, rboth_ok g g' m⟩
    · exact ⟨_, _, emp_pl.1, emp_pl.2, pmeet_no hX1 hX2 hY1 hY2 (.inr g'), rboth_no hX1 hX2 hY1 hY2 (.inr g')⟩
  · exact ⟨_, _, emp_pl.1, emp_pl.2, pmeet_no hX1 hX2 hY1 hY2 (.inl g), rboth_no hX1 hX2 hY1 hY2 (.inl g)⟩
theorem hull_pair (X1 X2 Y1 Y2 : Nat) (hX1 : X1 < 18446744073709551616) (hX2 : X2 < 18446744073709551616) (hY1 : Y1 < 18446744073709551616) (hY2 : Y2 < 18446744073709551616) : ∃ a b, Pl a ∧ Pl b ∧ (∀ w, Calls Try.prog 110 #[.agg #[.float .f64 X1, .float .f64 X2], .agg #[.float .f64 Y1, .float .f64 Y2]] w fun e w' => e = .returned (.agg #[.float .f64 (B a), .float .f64 (B b)]) ∧ Below w.heap.size w w') ∧ (∀ w, Calls Try.prog 49 #[.agg #[.float .f64 X1, .float .f64 X2], .agg #[.float .f64 Y1, .float .f64 Y2]] w fun e w' => e = .returned (.agg #[.float .f64 (B a), .float .f64 (B b)]) ∧ Below w.heap.size w w') := by
  rcases Iv.or X1 X2 with ⟨k, l, g⟩ | g
  · rcases Iv.or Y1 Y2 with ⟨k', l', g'⟩ | g'
    · exact ⟨_, _, pl_min g.x.pl g'.x.pl, pl_max g.y.pl g'.y.pl, phull_ok g g', reither_ok g g'⟩
    · exact ⟨_, _, g.x.pl, g.y.pl, phull_noy hY1 hY2 g g', reither_noy hY1 hY2 g g'⟩
  · rcases Iv.or Y1 Y2 with ⟨k', l', g'⟩ | g'
    · exact ⟨_, _, g'.x.pl, g'.y.pl, phull_nox hX1 hX2 g g', reither_nox hX1 hX2 g g'⟩
    · exact ⟨_, _, emp_pl.1, emp_pl.2, phull_no hX1 hX2 hY1 hY2 g g', reither_no hX1 hX2 hY1 hY2 g g'⟩
end Go.Proofs.Ytacnclofbnafiaa
