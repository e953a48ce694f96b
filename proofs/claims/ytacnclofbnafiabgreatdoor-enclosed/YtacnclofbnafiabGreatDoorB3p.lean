import Derived.Test.YtacnclofbnafiabGreatDoorSPP
import Derived.Test.YtacnclofbnafiabGreatDoorIV
import Derived.Test.YtacnclofbnafiabGreatDoorB1
import Derived.Test.YtacnclofbnafiabGreatDoorB1m
namespace Go.Proofs.YtacnclofbnafiabGreatDoor
open Go.RowKit Fl

theorem pnoBox : ∀ w, Calls Tryz.prog 112 #[] w fun e w' => e = .returned (.agg #[.float .f64 (B INF), .float .f64 (B (-INF)), .float .f64 (B INF), .float .f64 (B (-INF))]) ∧ Below w.heap.size w w' := noBox_w _ _ pempty
theorem pboxOf_ok {a b c d : Nat} {k l m n : Int} (h : Iv a b k l) (h' : Iv c d m n) : ∀ w, Calls Tryz.prog 117 #[.agg #[.float .f64 a, .float .f64 b], .agg #[.float .f64 c, .float .f64 d]] w fun e w' => e = .returned (.agg #[.float .f64 a, .float .f64 b, .float .f64 c, .float .f64 d]) ∧ Below w.heap.size w w' :=
  boxOf_3_w _ _ _ _ (none_no h) (none_no h')
theorem pboxOf_no {a b c d : Nat} (ha : a < 18446744073709551616) (hb : b < 18446744073709551616) (hc : c < 18446744073709551616) (hd : d < 18446744073709551616) (h : NoIv a b ∨ NoIv c d) : ∀ w, Calls Tryz.prog 117 #[.agg #[.float .f64 a, .float .f64 b], .agg #[.float .f64 c, .float .f64 d]] w fun e w' => e = .returned (.agg #[.float .f64 (B INF), .float .f64 (B (-INF)), .float .f64 (B INF), .float .f64 (B (-INF))]) ∧ Below w.heap.size w w' := by
  rcases Iv.or a b with ⟨k, l, g⟩ | g
  · rcases h with h | h
    · exact absurd g (h k l)
    · exact boxOf_2_w a b c d _ _ _ _ (none_no g) (none_yes h hc hd) pnoBox
  · exact boxOf_1_w a b c d _ _ _ _ (none_yes g ha hb) pnoBox
def NoBx (X1 X2 X3 X4 : Nat) : Prop := NoIv X1 X2 ∨ NoIv X3 X4
theorem Bx.or (X1 X2 X3 X4 : Nat) : (∃ k l m n, Iv X1 X2 k l ∧ Iv X3 X4 m n) ∨ NoBx X1 X2 X3 X4 := by
  rcases Iv.or X1 X2 with ⟨k, l, g⟩ | g
  · rcases Iv.or X3 X4 with ⟨m, n, g'⟩ | g'
    · exact .inl ⟨k, l, m, n, g, g'⟩
    · exact .inr (.inr g')
  · exact .inr (.inl g)
theorem pboxAdd_ok (F : Ops) {X1 X2 X3 X4 Y1 Y2 Y3 Y4 : Nat} {k l m n k' l' m' n' : Int} (g : Iv X1 X2 k l) (g2 : Iv X3 X4 m n) (g' : Iv Y1 Y2 k' l') (g2' : Iv Y3 Y4 m' n') : ∀ w, Calls Tryz.prog 85 #[.agg #[.float .f64 X1, .float .f64 X2, .float .f64 X3, .float .f64 X4], .agg #[.float .f64 Y1, .float .f64 Y2, .float .f64 Y3, .float .f64 Y4]] w fun e w' => e = .returned (.agg #[.float .f64 (B (F.aD k k')), .float .f64 (B (F.aU l l')), .float .f64 (B (F.aD m m')), .float .f64 (B (F.aU n n'))]) ∧ Below w.heap.size w w' :=
  boxAdd_w _ _ _ _ _ _ _ _ _ _ _ _ _ _ _ _ (padd_ok F g g') (padd_ok F g2 g2') (pboxOf_ok (padd_iv F g g') (padd_iv F g2 g2'))
theorem pboxSub_ok (F : Ops) {X1 X2 X3 X4 Y1 Y2 Y3 Y4 : Nat} {k l m n k' l' m' n' : Int} (g : Iv X1 X2 k l) (g2 : Iv X3 X4 m n) (g' : Iv Y1 Y2 k' l') (g2' : Iv Y3 Y4 m' n') : ∀ w, Calls Tryz.prog 86 #[.agg #[.float .f64 X1, .float .f64 X2, .float .f64 X3, .float .f64 X4], .agg #[.float .f64 Y1, .float .f64 Y2, .float .f64 Y3, .float .f64 Y4]] w fun e w' => e = .returned (.agg #[.float .f64 (B (F.aD k (-l'))), .float .f64 (B (F.aU l (-k'))), .float .f64 (B (F.aD m (-n'))), .float .f64 (B (F.aU n (-m')))]) ∧ Below w.heap.size w w' :=
  boxSub_w _ _ _ _ _ _ _ _ _ _ _ _ _ _ _ _ (psub_ok F g g') (psub_ok F g2 g2') (pboxOf_ok (padd_iv F g g'.neg) (padd_iv F g2 g2'.neg))
theorem pboxMul_ok (F : Ops) {X1 X2 X3 X4 Y1 Y2 Y3 Y4 : Nat} {k l m n k' l' m' n' : Int} (g : Iv X1 X2 k l) (g2 : Iv X3 X4 m n) (g' : Iv Y1 Y2 k' l') (g2' : Iv Y3 Y4 m' n') : ∀ w, Calls Tryz.prog 87 #[.agg #[.float .f64 X1, .float .f64 X2, .float .f64 X3, .float .f64 X4], .agg #[.float .f64 Y1, .float .f64 Y2, .float .f64 Y3, .float .f64 Y4]] w fun e w' => e = .returned (.agg #[.float .f64 (B (F.aD (F.pLo k l k' l') (-(F.pHi m n m' n')))), .float .f64 (B (F.aU (F.pHi k l k' l') (-(F.pLo m n m' n')))), .float .f64 (B (F.aD (F.pLo k l m' n') (F.pLo m n k' l'))), .float .f64 (B (F.aU (F.pHi k l m' n') (F.pHi m n k' l')))]) ∧ Below w.heap.size w w' :=
  boxMul_w _ _ _ _ _ _ _ _ _ _ _ _ _ _ _ _ _ _ _ _ _ _ _ _ (pmul_ok F g g') (pmul_ok F g2 g2') (pmul_ok F g g2') (pmul_ok F g2 g') (psub_ok F (pmul_iv F g g') (pmul_iv F g2 g2')) (padd_ok F (pmul_iv F g g2') (pmul_iv F g2 g')) (pboxOf_ok (padd_iv F (pmul_iv F g g') (pmul_iv F g2 g2').neg) (padd_iv F (pmul_iv F g g2') (pmul_iv F g2 g')))
end Go.Proofs.YtacnclofbnafiabGreatDoor
