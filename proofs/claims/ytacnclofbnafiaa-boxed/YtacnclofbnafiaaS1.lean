import Derived.Test.YtacnclofbnafiaaS0
import Derived.Test.YtacnclofbnafiaaK6
import Derived.Test.YtacnclofbnafiaaK7
import Derived.Test.YtacnclofbnafiaaK9s
import Derived.Test.YtacnclofbnafiaaK10
namespace Go.Proofs.Ytacnclofbnafiaa
open Go.RowKit Fl

-- sums
theorem padd_ok (F : Ops) {X1 X2 Y1 Y2 : Nat} {k l k' l' : Int} (h : Iv X1 X2 k l) (h' : Iv Y1 Y2 k' l') : ∀ w, Calls Try.prog 96 #[.agg #[.float .f64 X1, .float .f64 X2], .agg #[.float .f64 Y1, .float .f64 Y2]] w fun e w' => e = .returned (.agg #[.float .f64 (B (F.aD k k')), .float .f64 (B (F.aU l l'))]) ∧ Below w.heap.size w w' :=
  add_ok_w X1 X2 Y1 Y2 _ _ _ _ (none_no h) (none_no h') (F.add_p h.x h'.x) (F.add_p h.y h'.y)
theorem padd_no {X1 X2 Y1 Y2 : Nat} (hX1 : X1 < 18446744073709551616) (hX2 : X2 < 18446744073709551616) (hY1 : Y1 < 18446744073709551616) (hY2 : Y2 < 18446744073709551616) (h : NoIv X1 X2 ∨ NoIv Y1 Y2) : ∀ w, Calls Try.prog 96 #[.agg #[.float .f64 X1, .float .f64 X2], .agg #[.float .f64 Y1, .float .f64 Y2]] w fun e w' => e = .returned (.agg #[.float .f64 (B INF), .float .f64 (B (-INF))]) ∧ Below w.heap.size w w' := by
  rcases Iv.or X1 X2 with ⟨k, l, g⟩ | g
  · rcases h with h | h
    · exact absurd g (h k l)
    · exact add_noy_w X1 X2 Y1 Y2 _ _ (none_no g) (none_yes h hY1 hY2) pempty
  · exact add_nox_w X1 X2 Y1 Y2 _ _ (none_yes g hX1 hX2) pempty
theorem aD_pl (F : Ops) {k l : Int} (hk : Pl k) (hl : Pl l) : Pl (F.aD k l) ∧ Pl (F.aU k l) := by
  have := (F.add hk hl).bd
  unfold Pl; omega
theorem rsum_ok (F : Ops) {X1 X2 Y1 Y2 : Nat} {k l k' l' : Int} (h : Iv X1 X2 k l) (h' : Iv Y1 Y2 k' l') : ∀ w, Calls Try.prog 34 #[.agg #[.float .f64 X1, .float .f64 X2], .agg #[.float .f64 Y1, .float .f64 Y2]] w fun e w' => e = .returned (.agg #[.float .f64 (B (F.aD k k')), .float .f64 (B (F.aU l l'))]) ∧ Below w.heap.size w w' :=
  rsum_ok_w X1 X2 Y1 Y2 _ _ _ _ (rnone_no h) (rnone_no h') (F.add_d h.x h'.x) (F.add_u h.y h'.y) (rplain (Key.at (aD_pl F h.x.pl h'.x.pl).1) (Key.at (aD_pl F h.y.pl h'.y.pl).2))
theorem rsum_no {X1 X2 Y1 Y2 : Nat} (hX1 : X1 < 18446744073709551616) (hX2 : X2 < 18446744073709551616) (hY1 : Y1 < 18446744073709551616) (hY2 : Y2 < 18446744073709551616) (h : NoIv X1 X2 ∨ NoIv Y1 Y2) : ∀ w, Calls Try.prog 34 #[.agg #[.float .f64 X1, .float .f64 X2], .agg #[.float .f64 Y1, .float .f64 Y2]] w fun e w' => e = .returned (.agg #[.float .f64 (B INF), .float .f64 (B (-INF))]) ∧ Below w.heap.size w w' := by
  rcases Iv.or X1 X2 with ⟨k, l, g⟩ | g
  · rcases h with h | h
    · exact absurd g (h k l)
    · exact rsum_noy_w X1 X2 Y1 Y2 _ _ (rnone_no g) (rnone_yes h hY1 hY2) rempty
  · rcases Iv.or Y1 Y2 with ⟨k, l, g'⟩ | g'
    · exact rsum_nox_w X1 X2 Y1 Y2 _ _ false (rnone_yes g hX1 hX2) (rnone_no g') rempty
    · exact rsum_nox_w X1 X2 Y1 Y2 _ _ true (rnone_yes g hX1 hX2) (rnone_yes g' hY1 hY2) rempty
theorem psub_ok (F : Ops) {X1 X2 Y1 Y2 : Nat} {k l k' l' : Int} (h : Iv X1 X2 k l) (h' : Iv Y1 Y2 k' l') : ∀ w, Calls Try.prog 100 #[.agg #[.float .f64 X1, .float .f64 X2], .agg #[.float .f64 Y1, .float .f64 Y2]] w fun e w' => e = .returned (.agg #[.float .f64 (B (F.aD k (-l'))), .float .f64 (B (F.aU l (-k')))]) ∧ Below w.heap.size w w' :=
  sub_w X1 X2 Y1 Y2 _ _ _ _ (pneg h'.x h'.y) (padd_ok F h h'.neg)
theorem rdiff_ok (F : Ops) {X1 X2 Y1 Y2 : Nat} {k l k' l' : Int} (h : Iv X1 X2 k l) (h' : Iv Y1 Y2 k' l') : ∀ w, Calls Try.prog 37 #[.agg #[.float .f64 X1, .float .f64 X2], .agg #[.float .f64 Y1, .float .f64 Y2]] w fun e w' => e = .returned (.agg #[.float .f64 (B (F.aD k (-l'))), .float .f64 (B (F.aU l (-k')))]) ∧ Below w.heap.size w w' :=
  rdiff_w X1 X2 Y1 Y2 _ _ _ _ (rneg_ok h') (rsum_ok F h h'.neg)
theorem psub_no {X1 X2 Y1 Y2 : Nat} (hX1 : X1 < 18446744073709551616) (hX2 : X2 < 18446744073709551616) (hY1 : Y1 < 18446744073709551616) (hY2 : Y2 < 18446744073709551616) (h : NoIv X1 X2 ∨ NoIv Y1 Y2) : ∀ w, Calls Try.prog 100 #[.agg #[.float .f64 X1, .float .f64 X2], .agg #[.float .f64 Y1, .float .f64 Y2]] w fun e w' => e = .returned (.agg #[.float .f64 (B INF), .float .f64 (B (-INF))]) ∧ Below w.heap.size w w' := by
  have nan : NegNan Y1 Y2 → ∀ w, Calls Try.prog 100 #[.agg #[.float .f64 X1, .float .f64 X2], .agg #[.float .f64 Y1, .float .f64 Y2]] w fun e w' => e = .returned (.agg #[.float .f64 (B INF), .float .f64 (B (-INF))]) ∧ Below w.heap.size w w' := fun g => sub_nan_w X1 X2 Y1 Y2 _ _ g fun a b z1 z2 z3 => padd_no hX1 hX2 z2 z3 (.inr z1)
  have keys : ∀ k l, Key Y1 k → Key Y2 l → (NoIv X1 X2 ∨ NoIv (B (-l)) (B (-k))) → ∀ w, Calls Try.prog 100 #[.agg #[.float .f64 X1, .float .f64 X2], .agg #[.float .f64 Y1, .float .f64 Y2]] w fun e w' => e = .returned (.agg #[.float .f64 (B INF), .float .f64 (B (-INF))]) ∧ Below w.heap.size w w' := fun k l g1 g2 g =>
    sub_w X1 X2 Y1 Y2 _ _ _ _ (pneg g1 g2) (padd_no hX1 hX2 (Key.at (neg_pl g2.pl)).lt (Key.at (neg_pl g1.pl)).lt g)
  rcases Iv.or Y1 Y2 with ⟨k, l, g⟩ | g
  · refine keys k l g.x g.y (.inl ?_)
    rcases h with h | h
    · exact h
    · exact absurd g (h k l)
  · rcases g.cases hY1 hY2 with c | ⟨k, c1, c⟩ | ⟨k, l, c1, c2, c⟩
    · rcases word_cases Y2 hY2 with ⟨l, c'⟩ | c'
      · exact nan (neg_nan1 c c')
      · exact nan (neg_nan12 c c')
    · exact nan (neg_nan2 c1 c)
    · refine keys k l c1 c2 (.inr ?_)
      intro k2 l2 q
      have u1 := q.x.unique (Key.at (neg_pl c2.pl))
      have u2 := q.y.unique (Key.at (neg_pl c1.pl))
      have := q.le
      have := q.lo
      have := q.hi
      omega
theorem rdiff_no {X1 X2 Y1 Y2 : Nat} (hX1 : X1 < 18446744073709551616) (hX2 : X2 < 18446744073709551616) (hY1 : Y1 < 18446744073709551616) (hY2 : Y2 < 18446744073709551616) (h : NoIv X1 X2 ∨ NoIv Y1 Y2) : ∀ w, Calls Try.prog 37 #[.agg #[.float .f64 X1, .float .f64 X2], .agg #[.float .f64 Y1, .float .f64 Y2]] w fun e w' => e = .returned (.agg #[.float .f64 (B INF), .float .f64 (B (-INF))]) ∧ Below w.heap.size w w' := by
  rcases Iv.or Y1 Y2 with ⟨k, l, g⟩ | g
  · rcases h with h | h
    · exact rdiff_w X1 X2 Y1 Y2 _ _ _ _ (rneg_ok g) (rsum_no hX1 hX2 g.neg.x.lt g.neg.y.lt (.inl h))
    · exact absurd g (h k l)
  · exact rdiff_w X1 X2 Y1 Y2 _ _ _ _ (rneg_no g hY1 hY2) (rsum_no hX1 hX2 emp1 emp2 (.inr emp_no))
theorem sums_any (X1 X2 Y1 Y2 : Nat) (hX1 : X1 < 18446744073709551616) (hX2 : X2 < 18446744073709551616) (hY1 : Y1 < 18446744073709551616) (hY2 : Y2 < 18446744073709551616) : ∀ w, Calls Try.prog 5 #[.float .f64 X1, .float .f64 X2, .float .f64 Y1, .float .f64 Y2] w fun e w' => e = .returned (.bool true) ∧ Below w.heap.size w w' := by
  obtain ⟨F⟩ := ops
  by_cases h : NoIv X1 X2 ∨ NoIv Y1 Y2
  · exact sums_w X1 X2 Y1 Y2 _ _ _ _ (iAdd_w X1 X2 Y1 Y2 _ _ (padd_no hX1 hX2 hY1 hY2 h)) (rsum_no hX1 hX2 hY1 hY2 h) (alike_any emp_pl.1 emp_pl.2)
      (iSub_w X1 X2 Y1 Y2 _ _ (psub_no hX1 hX2 hY1 hY2 h)) (rdiff_no hX1 hX2 hY1 hY2 h) (alike_any emp_pl.1 emp_pl.2) (interval_w X1 X2) (interval_w Y1 Y2)
  · rcases Iv.or X1 X2 with ⟨k, l, g⟩ | g
    · rcases Iv.or Y1 Y2 with ⟨k', l', g'⟩ | g'
      · exact sums_w X1 X2 Y1 Y2 _ _ _ _ (iAdd_w X1 X2 Y1 Y2 _ _ (padd_ok F g g')) (rsum_ok F g g') (alike_any (aD_pl F g.x.pl g'.x.pl).1 (aD_pl F g.y.pl g'.y.pl).2)
          (iSub_w X1 X2 Y1 Y2 _ _ (psub_ok F g g')) (rdiff_ok F g g') (alike_any (aD_pl F g.x.pl (neg_pl g'.y.pl)).1 (aD_pl F g.y.pl (neg_pl g'.x.pl)).2) (interval_w X1 X2) (interval_w Y1 Y2)
      · exact absurd (.inr g') h
    · exact absurd (.inl g) h
end Go.Proofs.Ytacnclofbnafiaa
