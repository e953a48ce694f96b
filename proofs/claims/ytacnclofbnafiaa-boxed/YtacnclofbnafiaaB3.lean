import Derived.Test.YtacnclofbnafiaaS1
import Derived.Test.YtacnclofbnafiaaIV
import Derived.Test.YtacnclofbnafiaaSP
import Derived.Test.YtacnclofbnafiaaB1
import Derived.Test.YtacnclofbnafiaaB1m
import Derived.Test.YtacnclofbnafiaaB1r
import Derived.Test.YtacnclofbnafiaaB1q
import Derived.Test.YtacnclofbnafiaaB2b
namespace Go.Proofs.Ytacnclofbnafiaa
open Go.RowKit Fl

-- boxes without numbers, with numbers
theorem pnoBox : ∀ w, Calls Try.prog 155 #[] w fun e w' => e = .returned (.agg #[.float .f64 (B INF), .float .f64 (B (-INF)), .float .f64 (B INF), .float .f64 (B (-INF))]) ∧ Below w.heap.size w w' := noBox_w _ _ pempty
theorem rnoBox : ∀ w, Calls Try.prog 116 #[] w fun e w' => e = .returned (.agg #[.float .f64 (B INF), .float .f64 (B (-INF)), .float .f64 (B INF), .float .f64 (B (-INF))]) ∧ Below w.heap.size w w' := rnoBox_w _ _ rempty
theorem pboxOf_ok {a b c d : Nat} {k l m n : Int} (h : Iv a b k l) (h' : Iv c d m n) : ∀ w, Calls Try.prog 148 #[.agg #[.float .f64 a, .float .f64 b], .agg #[.float .f64 c, .float .f64 d]] w fun e w' => e = .returned (.agg #[.float .f64 a, .float .f64 b, .float .f64 c, .float .f64 d]) ∧ Below w.heap.size w w' :=
  boxOf_3_w _ _ _ _ (none_no h) (none_no h')
theorem pboxOf_no {a b c d : Nat} (ha : a < 18446744073709551616) (hb : b < 18446744073709551616) (hc : c < 18446744073709551616) (hd : d < 18446744073709551616) (h : NoIv a b ∨ NoIv c d) : ∀ w, Calls Try.prog 148 #[.agg #[.float .f64 a, .float .f64 b], .agg #[.float .f64 c, .float .f64 d]] w fun e w' => e = .returned (.agg #[.float .f64 (B INF), .float .f64 (B (-INF)), .float .f64 (B INF), .float .f64 (B (-INF))]) ∧ Below w.heap.size w w' := by
  rcases Iv.or a b with ⟨k, l, g⟩ | g
  · rcases h with h | h
    · exact absurd g (h k l)
    · exact boxOf_2_w a b c d _ _ _ _ (none_no g) (none_yes h hc hd) pnoBox
  · exact boxOf_1_w a b c d _ _ _ _ (none_yes g ha hb) pnoBox
theorem rbare_no {a b c d : Nat} {k l m n : Int} (h : Iv a b k l) (h' : Iv c d m n) : ∀ w, Calls Try.prog 115 #[.agg #[.float .f64 a, .float .f64 b, .float .f64 c, .float .f64 d]] w fun e w' => e = .returned (.bool false) ∧ Below w.heap.size w w' :=
  rbare_ff_w _ _ _ _ (rnone_no h) (rnone_no h')
theorem rbare_yes {a b c d : Nat} (ha : a < 18446744073709551616) (hb : b < 18446744073709551616) (hc : c < 18446744073709551616) (hd : d < 18446744073709551616) (h : NoIv a b ∨ NoIv c d) : ∀ w, Calls Try.prog 115 #[.agg #[.float .f64 a, .float .f64 b, .float .f64 c, .float .f64 d]] w fun e w' => e = .returned (.bool true) ∧ Below w.heap.size w w' := by
  rcases Iv.or a b with ⟨k, l, g⟩ | g <;> rcases Iv.or c d with ⟨m, n, g'⟩ | g'
  · rcases h with h | h
    · exact absurd g (h k l)
    · exact absurd g' (h m n)
  · exact rbare_ft_w _ _ _ _ (rnone_no g) (rnone_yes g' hc hd)
  · exact rbare_tf_w _ _ _ _ (rnone_yes g ha hb) (rnone_no g')
  · exact rbare_tt_w _ _ _ _ (rnone_yes g ha hb) (rnone_yes g' hc hd)

def NoBx (X1 X2 X3 X4 : Nat) : Prop := NoIv X1 X2 ∨ NoIv X3 X4
theorem Bx.or (X1 X2 X3 X4 : Nat) : (∃ k l m n, Iv X1 X2 k l ∧ Iv X3 X4 m n) ∨ NoBx X1 X2 X3 X4 := by
  rcases Iv.or X1 X2 with ⟨k, l, g⟩ | g
  · rcases Iv.or X3 X4 with ⟨m, n, g'⟩ | g'
    · exact .inl ⟨k, l, m, n, g, g'⟩
    · exact .inr (.inr g')
  · exact .inr (.inl g)
theorem pboxAdd_ok (F : Ops) {X1 X2 X3 X4 Y1 Y2 Y3 Y4 : Nat} {k l m n k' l' m' n' : Int} (g : Iv X1 X2 k l) (g2 : Iv X3 X4 m n) (g' : Iv Y1 Y2 k' l') (g2' : Iv Y3 Y4 m' n') : ∀ w, Calls Try.prog 114 #[.agg #[.float .f64 X1, .float .f64 X2, .float .f64 X3, .float .f64 X4], .agg #[.float .f64 Y1, .float .f64 Y2, .float .f64 Y3, .float .f64 Y4]] w fun e w' => e = .returned (.agg #[.float .f64 (B (F.aD k k')), .float .f64 (B (F.aU l l')), .float .f64 (B (F.aD m m')), .float .f64 (B (F.aU n n'))]) ∧ Below w.heap.size w w' :=
  boxAdd_w _ _ _ _ _ _ _ _ _ _ _ _ _ _ _ _ (padd_ok F g g') (padd_ok F g2 g2') (pboxOf_ok (padd_iv F g g') (padd_iv F g2 g2'))
theorem rboxAdd_ok (F : Ops) {X1 X2 X3 X4 Y1 Y2 Y3 Y4 : Nat} {k l m n k' l' m' n' : Int} (g : Iv X1 X2 k l) (g2 : Iv X3 X4 m n) (g' : Iv Y1 Y2 k' l') (g2' : Iv Y3 Y4 m' n') : ∀ w, Calls Try.prog 59 #[.agg #[.float .f64 X1, .float .f64 X2, .float .f64 X3, .float .f64 X4], .agg #[.float .f64 Y1, .float .f64 Y2, .float .f64 Y3, .float .f64 Y4], .bool false] w fun e w' => e = .returned (.agg #[.float .f64 (B (F.aD k k')), .float .f64 (B (F.aU l l')), .float .f64 (B (F.aD m m')), .float .f64 (B (F.aU n n'))]) ∧ Below w.heap.size w w' :=
  rboxSum_f_w _ _ _ _ _ _ _ _ _ _ _ _ (rbare_no g g2) (rbare_no g' g2') (rsum_ok F g g') (rsum_ok F g2 g2')
theorem pboxSub_ok (F : Ops) {X1 X2 X3 X4 Y1 Y2 Y3 Y4 : Nat} {k l m n k' l' m' n' : Int} (g : Iv X1 X2 k l) (g2 : Iv X3 X4 m n) (g' : Iv Y1 Y2 k' l') (g2' : Iv Y3 Y4 m' n') : ∀ w, Calls Try.prog 117 #[.agg #[.float .f64 X1, .float .f64 X2, .float .f64 X3, .float .f64 X4], .agg #[.float .f64 Y1, .float .f64 Y2, .float .f64 Y3, .float .f64 Y4]] w fun e w' => e = .returned (.agg #[.float .f64 (B (F.aD k (-l'))), .float .f64 (B (F.aU l (-k'))), .float .f64 (B (F.aD m (-n'))), .float .f64 (B (F.aU n (-m')))]) ∧ Below w.heap.size w w' :=
  boxSub_w _ _ _ _ _ _ _ _ _ _ _ _ _ _ _ _ (psub_ok F g g') (psub_ok F g2 g2') (pboxOf_ok (padd_iv F g g'.neg) (padd_iv F g2 g2'.neg))
theorem rboxSub_ok (F : Ops) {X1 X2 X3 X4 Y1 Y2 Y3 Y4 : Nat} {k l m n k' l' m' n' : Int} (g : Iv X1 X2 k l) (g2 : Iv X3 X4 m n) (g' : Iv Y1 Y2 k' l') (g2' : Iv Y3 Y4 m' n') : ∀ w, Calls Try.prog 59 #[.agg #[.float .f64 X1, .float .f64 X2, .float .f64 X3, .float .f64 X4], .agg #[.float .f64 Y1, .float .f64 Y2, .float .f64 Y3, .float .f64 Y4], .bool true] w fun e w' => e = .returned (.agg #[.float .f64 (B (F.aD k (-l'))), .float .f64 (B (F.aU l (-k'))), .float .f64 (B (F.aD m (-n'))), .float .f64 (B (F.aU n (-m')))]) ∧ Below w.heap.size w w' :=
  rboxSum_t_w _ _ _ _ _ _ _ _ _ _ _ _ (rbare_no g g2) (rbare_no g' g2') (rdiff_ok F g g') (rdiff_ok F g2 g2')
theorem pboxMul_ok (F : Ops) {X1 X2 X3 X4 Y1 Y2 Y3 Y4 : Nat} {k l m n k' l' m' n' : Int} (g : Iv X1 X2 k l) (g2 : Iv X3 X4 m n) (g' : Iv Y1 Y2 k' l') (g2' : Iv Y3 Y4 m' n') : ∀ w, Calls Try.prog 118 #[.agg #[.float .f64 X1, .float .f64 X2, .float .f64 X3, .float .f64 X4], .agg #[.float .f64 Y1, .float .f64 Y2, .float .f64 Y3, .float .f64 Y4]] w fun e w' => e = .returned (.agg #[.float .f64 (B (F.aD (F.pLo k l k' l') (-(F.pHi m n m' n')))), .float .f64 (B (F.aU (F.pHi k l k' l') (-(F.pLo m n m' n')))), .float .f64 (B (F.aD (F.pLo k l m' n') (F.pLo m n k' l'))), .float .f64 (B (F.aU (F.pHi k l m' n') (F.pHi m n k' l')))]) ∧ Below w.heap.size w w' :=
  boxMul_w _ _ _ _ _ _ _ _ _ _ _ _ _ _ _ _ _ _ _ _ _ _ _ _ (pmul_ok F g g') (pmul_ok F g2 g2') (pmul_ok F g g2') (pmul_ok F g2 g') (psub_ok F (pmul_iv F g g') (pmul_iv F g2 g2')) (padd_ok F (pmul_iv F g g2') (pmul_iv F g2 g')) (pboxOf_ok (padd_iv F (pmul_iv F g g') (pmul_iv F g2 g2').neg) (padd_iv F (pmul_iv F g g2') (pmul_iv F g2 g')))
theorem rboxMul_ok (F : Ops) {X1 X2 X3 X4 Y1 Y2 Y3 Y4 : Nat} {k l m n k' l' m' n' : Int} (g : Iv X1 X2 k l) (g2 : Iv X3 X4 m n) (g' : Iv Y1 Y2 k' l') (g2' : Iv Y3 Y4 m' n') : ∀ w, Calls Try.prog 63 #[.agg #[.float .f64 X1, .float .f64 X2, .float .f64 X3, .float .f64 X4], .agg #[.float .f64 Y1, .float .f64 Y2, .float .f64 Y3, .float .f64 Y4]] w fun e w' => e = .returned (.agg #[.float .f64 (B (F.aD (F.pLo k l k' l') (-(F.pHi m n m' n')))), .float .f64 (B (F.aU (F.pHi k l k' l') (-(F.pLo m n m' n')))), .float .f64 (B (F.aD (F.pLo k l m' n') (F.pLo m n k' l'))), .float .f64 (B (F.aU (F.pHi k l m' n') (F.pHi m n k' l')))]) ∧ Below w.heap.size w w' :=
  rboxProduct_w _ _ _ _ _ _ _ _ _ _ _ _ _ _ _ _ _ _ _ _ (rbare_no g g2) (rbare_no g' g2') (rprod_ok F g g') (rprod_ok F g2 g2') (rprod_ok F g g2') (rprod_ok F g2 g') (rdiff_ok F (pmul_iv F g g') (pmul_iv F g2 g2')) (rsum_ok F (pmul_iv F g g2') (pmul_iv F g2 g'))
theorem rboxAdd_no {X1 X2 X3 X4 Y1 Y2 Y3 Y4 : Nat} (hX1 : X1 < 18446744073709551616) (hX2 : X2 < 18446744073709551616) (hX3 : X3 < 18446744073709551616) (hX4 : X4 < 18446744073709551616) (hY1 : Y1 < 18446744073709551616) (hY2 : Y2 < 18446744073709551616) (hY3 : Y3 < 18446744073709551616) (hY4 : Y4 < 18446744073709551616) (h : NoBx X1 X2 X3 X4 ∨ NoBx Y1 Y2 Y3 Y4) : ∀ w, Calls Try.prog 59 #[.agg #[.float .f64 X1, .float .f64 X2, .float .f64 X3, .float .f64 X4], .agg #[.float .f64 Y1, .float .f64 Y2, .float .f64 Y3, .float .f64 Y4], .bool false] w fun e w' => e = .returned (.agg #[.float .f64 (B INF), .float .f64 (B (-INF)), .float .f64 (B INF), .float .f64 (B (-INF))]) ∧ Below w.heap.size w w' := by
  rcases Bx.or X1 X2 X3 X4 with ⟨k, l, m, n, g, g2⟩ | g
  · rcases h with h | h
    · rcases h with h | h
      · exact absurd g (h _ _)
      · exact absurd g2 (h _ _)
    · exact rboxSum_noy_f_w X1 X2 X3 X4 Y1 Y2 Y3 Y4 _ _ _ _ (rbare_no g g2) (rbare_yes hY1 hY2 hY3 hY4 h) rnoBox
  · rcases Bx.or Y1 Y2 Y3 Y4 with ⟨k, l, m, n, g', g2'⟩ | g'
    · exact rboxSum_nox_f_w X1 X2 X3 X4 Y1 Y2 Y3 Y4 _ _ _ _ false (rbare_yes hX1 hX2 hX3 hX4 g) (rbare_no g' g2') rnoBox
    · exact rboxSum_nox_f_w X1 X2 X3 X4 Y1 Y2 Y3 Y4 _ _ _ _ true (rbare_yes hX1 hX2 hX3 hX4 g) (rbare_yes hY1 hY2 hY3 hY4 g') rnoBox
theorem rboxSub_no {X1 X2 X3 X4 Y1 Y2 Y3 Y4 : Nat} (hX1 : X1 < 18446744073709551616) (hX2 : X2 < 18446744073709551616) (hX3 : X3 < 18446744073709551616) (hX4 : X4 < 18446744073709551616) (hY1 : Y1 < 18446744073709551616) (hY2 : Y2 < 18446744073709551616) (hY3 : Y3 < 18446744073709551616) (hY4 : Y4 < 18446744073709551616) (h : NoBx X1 X2 X3 X4 ∨ NoBx Y1 Y2 Y3 Y4) : ∀ w, Calls Try.prog 59 #[.agg #[.float .f64 X1, .float .f64 X2, .float .f64 X3, .float .f64 X4], .agg #[.float .f64 Y1, .float .f64 Y2, .float .f64 Y3, .float .f64 Y4], .bool true] w fun e w' => e = .returned (.agg #[.float .f64 (B INF), .float .f64 (B (-INF)), .float .f64 (B INF), .float .f64 (B (-INF))]) ∧ Below w.heap.size w w' := by
  rcases Bx.or X1 X2 X3 X4 with ⟨k, l, m, n, g, g2⟩ | g
  · rcases h with h | h
    · rcases h with h | h
      · exact absurd g (h _ _)
      · exact absurd g2 (h _ _)
    · exact rboxSum_noy_t_w X1 X2 X3 X4 Y1 Y2 Y3 Y4 _ _ _ _ (rbare_no g g2) (rbare_yes hY1 hY2 hY3 hY4 h) rnoBox
  · rcases Bx.or Y1 Y2 Y3 Y4 with ⟨k, l, m, n, g', g2'⟩ | g'
    · exact rboxSum_nox_t_w X1 X2 X3 X4 Y1 Y2 Y3 Y4 _ _ _ _ false (rbare_yes hX1 hX2 hX3 hX4 g) (rbare_no g' g2') rnoBox
    · exact rboxSum_nox_t_w X1 X2 X3 X4 Y1 Y2 Y3 Y4 _ _ _ _ true (rbare_yes hX1 hX2 hX3 hX4 g) (rbare_yes hY1 hY2 hY3 hY4 g') rnoBox
theorem rboxMul_no {X1 X2 X3 X4 Y1 Y2 Y3 Y4 : Nat} (hX1 : X1 < 18446744073709551616) (hX2 : X2 < 18446744073709551616) (hX3 : X3 < 18446744073709551616) (hX4 : X4 < 18446744073709551616) (hY1 : Y1 < 18446744073709551616) (hY2 : Y2 < 18446744073709551616) (hY3 : Y3 < 18446744073709551616) (hY4 : Y4 < 18446744073709551616) (h : NoBx X1 X2 X3 X4 ∨ NoBx Y1 Y2 Y3 Y4) : ∀ w, Calls Try.prog 63 #[.agg #[.float .f64 X1, .float .f64 X2, .float .f64 X3, .float .f64 X4], .agg #[.float .f64 Y1, .float .f64 Y2, .float .f64 Y3, .float .f64 Y4]] w fun e w' => e = .returned (.agg #[.float .f64 (B INF), .float .f64 (B (-INF)), .float .f64 (B INF), .float .f64 (B (-INF))]) ∧ Below w.heap.size w w' := by
  rcases Bx.or X1 X2 X3 X4 with ⟨k, l, m, n, g, g2⟩ | g
  · rcases h with h | h
    · rcases h with h | h
      · exact absurd g (h _ _)
      · exact absurd g2 (h _ _)
    · exact rboxProduct_noy_w X1 X2 X3 X4 Y1 Y2 Y3 Y4 _ _ _ _ (rbare_no g g2) (rbare_yes hY1 hY2 hY3 hY4 h) rnoBox
  · rcases Bx.or Y1 Y2 Y3 Y4 with ⟨k, l, m, n, g', g2'⟩ | g'
    · exact rboxProduct_nox_w X1 X2 X3 X4 Y1 Y2 Y3 Y4 _ _ _ _ false (rbare_yes hX1 hX2 hX3 hX4 g) (rbare_no g' g2') rnoBox
    · exact rboxProduct_nox_w X1 X2 X3 X4 Y1 Y2 Y3 Y4 _ _ _ _ true (rbare_yes hX1 hX2 hX3 hX4 g) (rbare_yes hY1 hY2 hY3 hY4 g') rnoBox
theorem padd_part (F : Ops) {X1 X2 Y1 Y2 : Nat} (hX1 : X1 < 18446744073709551616) (hX2 : X2 < 18446744073709551616) (hY1 : Y1 < 18446744073709551616) (hY2 : Y2 < 18446744073709551616) : ∃ a b, (NoIv X1 X2 ∨ NoIv Y1 Y2 → NoIv a b) ∧ a < 18446744073709551616 ∧ b < 18446744073709551616 ∧ ∀ w, Calls Try.prog 96 #[.agg #[.float .f64 X1, .float .f64 X2], .agg #[.float .f64 Y1, .float .f64 Y2]] w fun e w' => e = .returned (.agg #[.float .f64 a, .float .f64 b]) ∧ Below w.heap.size w w' := by
  by_cases h : NoIv X1 X2 ∨ NoIv Y1 Y2
  · exact ⟨_, _, fun _ => emp_no, emp1, emp2, padd_no hX1 hX2 hY1 hY2 h⟩
  · rcases Iv.or X1 X2 with ⟨k, l, g⟩ | g
    · rcases Iv.or Y1 Y2 with ⟨k', l', g'⟩ | g'
      · exact ⟨_, _, fun c => absurd c h, (padd_iv F g g').x.lt, (padd_iv F g g').y.lt, padd_ok F g g'⟩
      · exact absurd (.inr g') h
    · exact absurd (.inl g) h
theorem psub_part (F : Ops) {X1 X2 Y1 Y2 : Nat} (hX1 : X1 < 18446744073709551616) (hX2 : X2 < 18446744073709551616) (hY1 : Y1 < 18446744073709551616) (hY2 : Y2 < 18446744073709551616) : ∃ a b, (NoIv X1 X2 ∨ NoIv Y1 Y2 → NoIv a b) ∧ a < 18446744073709551616 ∧ b < 18446744073709551616 ∧ ∀ w, Calls Try.prog 100 #[.agg #[.float .f64 X1, .float .f64 X2], .agg #[.float .f64 Y1, .float .f64 Y2]] w fun e w' => e = .returned (.agg #[.float .f64 a, .float .f64 b]) ∧ Below w.heap.size w w' := by
  by_cases h : NoIv X1 X2 ∨ NoIv Y1 Y2
  · exact ⟨_, _, fun _ => emp_no, emp1, emp2, psub_no hX1 hX2 hY1 hY2 h⟩
  · rcases Iv.or X1 X2 with ⟨k, l, g⟩ | g
    · rcases Iv.or Y1 Y2 with ⟨k', l', g'⟩ | g'
      · exact ⟨_, _, fun c => absurd c h, (padd_iv F g g'.neg).x.lt, (padd_iv F g g'.neg).y.lt, psub_ok F g g'⟩
      · exact absurd (.inr g') h
    · exact absurd (.inl g) h
theorem pmul_part (F : Ops) {X1 X2 Y1 Y2 : Nat} (hX1 : X1 < 18446744073709551616) (hX2 : X2 < 18446744073709551616) (hY1 : Y1 < 18446744073709551616) (hY2 : Y2 < 18446744073709551616) : ∃ a b, (NoIv X1 X2 ∨ NoIv Y1 Y2 → NoIv a b) ∧ a < 18446744073709551616 ∧ b < 18446744073709551616 ∧ ∀ w, Calls Try.prog 102 #[.agg #[.float .f64 X1, .float .f64 X2], .agg #[.float .f64 Y1, .float .f64 Y2]] w fun e w' => e = .returned (.agg #[.float .f64 a, .float .f64 b]) ∧ Below w.heap.size w w' := by
  by_cases h : NoIv X1 X2 ∨ NoIv Y1 Y2
  · exact ⟨_, _, fun _ => emp_no, emp1, emp2, pmul_no hX1 hX2 hY1 hY2 h⟩
  · rcases Iv.or X1 X2 with ⟨k, l, g⟩ | g
    · rcases Iv.or Y1 Y2 with ⟨k', l', g'⟩ | g'
      · exact ⟨_, _, fun c => absurd c h, (pmul_iv F g g').x.lt, (pmul_iv F g g').y.lt, pmul_ok F g g'⟩
      · exact absurd (.inr g') h
    · exact absurd (.inl g) h
theorem pboxAdd_no (F : Ops) {X1 X2 X3 X4 Y1 Y2 Y3 Y4 : Nat} (hX1 : X1 < 18446744073709551616) (hX2 : X2 < 18446744073709551616) (hX3 : X3 < 18446744073709551616) (hX4 : X4 < 18446744073709551616) (hY1 : Y1 < 18446744073709551616) (hY2 : Y2 < 18446744073709551616) (hY3 : Y3 < 18446744073709551616) (hY4 : Y4 < 18446744073709551616) (h : NoBx X1 X2 X3 X4 ∨ NoBx Y1 Y2 Y3 Y4) : ∀ w, Calls Try.prog 114 #[.agg #[.float .f64 X1, .float .f64 X2, .float .f64 X3, .float .f64 X4], .agg #[.float .f64 Y1, .float .f64 Y2, .float .f64 Y3, .float .f64 Y4]] w fun e w' => e = .returned (.agg #[.float .f64 (B INF), .float .f64 (B (-INF)), .float .f64 (B INF), .float .f64 (B (-INF))]) ∧ Below w.heap.size w w' := by
  obtain ⟨a, b, n1, a1, b1, c1⟩ := padd_part F hX1 hX2 hY1 hY2
  obtain ⟨c, d, n2, a2, b2, c2⟩ := padd_part F hX3 hX4 hY3 hY4
  refine boxAdd_w X1 X2 X3 X4 Y1 Y2 Y3 Y4 _ _ _ _ _ _ _ _ c1 c2 (pboxOf_no a1 b1 a2 b2 ?_)
  rcases h with (h | h) | (h | h)
  · exact .inl (n1 (.inl h))
  · exact .inr (n2 (.inl h))
  · exact .inl (n1 (.inr h))
  · exact .inr (n2 (.inr h))
theorem pboxSub_no (F : Ops) {X1 X2 X3 X4 Y1 Y2 Y3 Y4 : Nat} (hX1 : X1 < 18446744073709551616) (hX2 : X2 < 18446744073709551616) (hX3 : X3 < 18446744073709551616) (hX4 : X4 < 18446744073709551616) (hY1 : Y1 < 18446744073709551616) (hY2 : Y2 < 18446744073709551616) (hY3 : Y3 < 18446744073709551616) (hY4 : Y4 < 18446744073709551616) (h : NoBx X1 X2 X3 X4 ∨ NoBx Y1 Y2 Y3 Y4) : ∀ w, Calls Try.prog 117 #[.agg #[.float .f64 X1, .float .f64 X2, .float .f64 X3, .float .f64 X4], .agg #[.float .f64 Y1, .float .f64 Y2, .float .f64 Y3, .float .f64 Y4]] w fun e w' => e = .returned (.agg #[.float .f64 (B INF), .float .f64 (B (-INF)), .float .f64 (B INF), .float .f64 (B (-INF))]) ∧ Below w.heap.size w w' := by
  obtain ⟨a, b, n1, a1, b1, c1⟩ := psub_part F hX1 hX2 hY1 hY2
  obtain ⟨c, d, n2, a2, b2, c2⟩ := psub_part F hX3 hX4 hY3 hY4
  refine boxSub_w X1 X2 X3 X4 Y1 Y2 Y3 Y4 _ _ _ _ _ _ _ _ c1 c2 (pboxOf_no a1 b1 a2 b2 ?_)
  rcases h with (h | h) | (h | h)
  · exact .inl (n1 (.inl h))
  · exact .inr (n2 (.inl h))
  · exact .inl (n1 (.inr h))
  · exact .inr (n2 (.inr h))
theorem pboxMul_no (F : Ops) {X1 X2 X3 X4 Y1 Y2 Y3 Y4 : Nat} (hX1 : X1 < 18446744073709551616) (hX2 : X2 < 18446744073709551616) (hX3 : X3 < 18446744073709551616) (hX4 : X4 < 18446744073709551616) (hY1 : Y1 < 18446744073709551616) (hY2 : Y2 < 18446744073709551616) (hY3 : Y3 < 18446744073709551616) (hY4 : Y4 < 18446744073709551616) (h : NoBx X1 X2 X3 X4 ∨ NoBx Y1 Y2 Y3 Y4) : ∀ w, Calls Try.prog 118 #[.agg #[.float .f64 X1, .float .f64 X2, .float .f64 X3, .float .f64 X4], .agg #[.float .f64 Y1, .float .f64 Y2, .float .f64 Y3, .float .f64 Y4]] w fun e w' => e = .returned (.agg #[.float .f64 (B INF), .float .f64 (B (-INF)), .float .f64 (B INF), .float .f64 (B (-INF))]) ∧ Below w.heap.size w w' := by
  obtain ⟨a, b, n1, a1, b1, c1⟩ := pmul_part F hX1 hX2 hY1 hY2
  obtain ⟨c, d, n2, a2, b2, c2⟩ := pmul_part F hX3 hX4 hY3 hY4
  obtain ⟨p, q, n3, a3, b3, c3⟩ := pmul_part F hX1 hX2 hY3 hY4
  obtain ⟨r, s, n4, a4, b4, c4⟩ := pmul_part F hX3 hX4 hY1 hY2
  obtain ⟨t, u, n5, a5, b5, c5⟩ := psub_part F a1 b1 a2 b2
  obtain ⟨x, y, n6, a6, b6, c6⟩ := padd_part F a3 b3 a4 b4
  refine boxMul_w X1 X2 X3 X4 Y1 Y2 Y3 Y4 _ _ _ _ _ _ _ _ _ _ _ _ _ _ _ _ c1 c2 c3 c4 c5 c6 (pboxOf_no a5 b5 a6 b6 (.inl (n5 ?_)))
  rcases h with (h | h) | (h | h)
  · exact .inl (n1 (.inl h))
  · exact .inr (n2 (.inl h))
  · exact .inl (n1 (.inr h))
  · exact .inr (n2 (.inr h))
theorem alikeBox_any {a b c d : Int} (ha : Pl a) (hb : Pl b) (hc : Pl c) (hd : Pl d) : ∀ w, Calls Try.prog 60 #[.agg #[.float .f64 (B a), .float .f64 (B b), .float .f64 (B c), .float .f64 (B d)], .agg #[.float .f64 (B a), .float .f64 (B b), .float .f64 (B c), .float .f64 (B d)]] w fun e w' => e = .returned (.bool true) ∧ Below w.heap.size w w' :=
  alikeBox_w _ _ _ _ (alike_any ha hb) (alike_any hc hd)
theorem boxed_any (v : Value) (f : Nat → Nat) (w : World) (hl : Lst w v f) : Calls Try.prog 11 #[v] w fun e w' => e = .returned (.bool true) ∧ Below w.heap.size w w' := by
  obtain ⟨F⟩ := ops
  have L := hl.lt
  by_cases h : NoBx (f 0) (f 1) (f 2) (f 3) ∨ NoBx (f 4) (f 5) (f 6) (f 7)
  · exact boxed_w v f _ _ _ _ _ _ _ _ _ _ _ _
      (iBoxAdd_w _ _ _ _ _ _ _ _ _ _ _ _ (pboxAdd_no F (L 0) (L 1) (L 2) (L 3) (L 4) (L 5) (L 6) (L 7) h)) (rboxAdd_no (L 0) (L 1) (L 2) (L 3) (L 4) (L 5) (L 6) (L 7) h) (alikeBox_any emp_pl.1 emp_pl.2 emp_pl.1 emp_pl.2)
      (iBoxSub_w _ _ _ _ _ _ _ _ _ _ _ _ (pboxSub_no F (L 0) (L 1) (L 2) (L 3) (L 4) (L 5) (L 6) (L 7) h)) (rboxSub_no (L 0) (L 1) (L 2) (L 3) (L 4) (L 5) (L 6) (L 7) h) (alikeBox_any emp_pl.1 emp_pl.2 emp_pl.1 emp_pl.2)
      (iBoxMul_w _ _ _ _ _ _ _ _ _ _ _ _ (pboxMul_no F (L 0) (L 1) (L 2) (L 3) (L 4) (L 5) (L 6) (L 7) h)) (rboxMul_no (L 0) (L 1) (L 2) (L 3) (L 4) (L 5) (L 6) (L 7) h) (alikeBox_any emp_pl.1 emp_pl.2 emp_pl.1 emp_pl.2) w hl
  · rcases Bx.or (f 0) (f 1) (f 2) (f 3) with ⟨k, l, m, n, g, g2⟩ | g
    · rcases Bx.or (f 4) (f 5) (f 6) (f 7) with ⟨k', l', m', n', g', g2'⟩ | g'
      · have q := fun {X1 X2 Y1 Y2 : Nat} {k l k' l' : Int} (h : Iv X1 X2 k l) (h' : Iv Y1 Y2 k' l') => And.intro (padd_iv F h h').x.pl (padd_iv F h h').y.pl
        exact boxed_w v f _ _ _ _ _ _ _ _ _ _ _ _
          (iBoxAdd_w _ _ _ _ _ _ _ _ _ _ _ _ (pboxAdd_ok F g g2 g' g2')) (rboxAdd_ok F g g2 g' g2') (alikeBox_any (q g g').1 (q g g').2 (q g2 g2').1 (q g2 g2').2)
          (iBoxSub_w _ _ _ _ _ _ _ _ _ _ _ _ (pboxSub_ok F g g2 g' g2')) (rboxSub_ok F g g2 g' g2') (alikeBox_any (q g g'.neg).1 (q g g'.neg).2 (q g2 g2'.neg).1 (q g2 g2'.neg).2)
          (iBoxMul_w _ _ _ _ _ _ _ _ _ _ _ _ (pboxMul_ok F g g2 g' g2')) (rboxMul_ok F g g2 g' g2') (alikeBox_any (q (pmul_iv F g g') (pmul_iv F g2 g2').neg).1 (q (pmul_iv F g g') (pmul_iv F g2 g2').neg).2 (q (pmul_iv F g g2') (pmul_iv F g2 g')).1 (q (pmul_iv F g g2') (pmul_iv F g2 g')).2) w hl
      · exact absurd (.inr g') h
    · exact absurd (.inl g) h
end Go.Proofs.Ytacnclofbnafiaa
